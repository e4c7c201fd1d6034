import Derived.Test.YtnikehgmopcocaaDoorPartsS
import Derived.Deep.RegionHeld3
import Derived.Shelf.Strings.FieldsAny
import Derived.Deep.LoopGhost
import Derived.WalkMore
namespace Go.Proofs.YtnikehgmopcocaaDoor
open Go.RowKit

set_option maxHeartbeats 1000000 in
theorem impl_valid (s : ByteArray) (w : World) (hs : s.size ≤ 1048576) :
    Calls Tryd.prog 22 #[.string s] w fun e w' => ∃ k : Nat, e = .returned (.int .i64 (k : Int)) ∧ ((k = s.size ∧ s.data.toList.all okByte = true) ∨ (k < s.size ∧ s.data.toList.all okByte = false)) ∧ w = w' := by
  go_enter Tryd.func22, Tryd.ntmps22
  go_wp2
  go_step3
  go_wp2
  go_step3
  go_wp2
  go_loopw [3] (fun i wr => ∃ k : Nat, k ≤ s.size ∧ i = .int .i64 k ∧ okTo s k ∧ wr = w) (fun i _ => s.size - (intOf i).toNat)
  case atStart => exact ⟨0, by omega, rfl, okTo_zero s, rfl⟩
  case round =>
    obtain ⟨k, hk, rfl, hto, rfl⟩ := hrel
    have HT := Lib.hid hto
    clear hto
    by_cases hlt : k < s.size
    · have q : (k : Int) < (s.size : Int) := by omega
      by_cases hlo : s[k].toNat < 32
      · have q1 : (s[k].toNat : Int) < 32 := by omega
        have hb := Lib.hid (bad_all hlt (okByte_lo _ hlo))
        go_wp2_with (fail)
        try rw [Exit.noGoto_ret]
        go_ret
        exact ⟨k, rfl, .inr ⟨hlt, hb.out⟩, rfl⟩
      · have q1 : ¬ (s[k].toNat : Int) < 32 := by omega
        by_cases hhi : 126 < s[k].toNat
        · have q2 : (126 : Int) < (s[k].toNat : Int) := by omega
          have hb := Lib.hid (bad_all hlt (okByte_hi _ hhi))
          go_wp2_with (fail)
          try rw [Exit.noGoto_ret]
          go_ret
          exact ⟨k, rfl, .inr ⟨hlt, hb.out⟩, rfl⟩
        · have q2 : ¬ (126 : Int) < (s[k].toNat : Int) := by omega
          have hn := Lib.hid (okTo_succ HT.out hlt (okByte_of _ (by omega) (by omega)))
          go_wp2_with (fail)
          go_roundw
          case rel => exact ⟨k + 1, by omega, by go_num, hn.out, trivial⟩
          case measure => simp [intOf]; omega
    · obtain rfl : k = s.size := by omega
      have hb := Lib.hid (okTo_all HT.out)
      have q : ¬ (s.size : Int) < (s.size : Int) := by omega
      go_wp2_with (fail)
      try rw [Exit.noGoto_ret]
      go_ret
      exact ⟨s.size, rfl, .inl ⟨rfl, hb.out⟩, rfl⟩

theorem impl_clone (s : ByteArray) (w : World) (hlim : s.size ≤ 281474976710656) :
    Calls Tryd.prog 24 #[.string s] w fun e w' => e = .returned (.string s) ∧ Below w.heap.size w w' := by
  have c1 := fun W => Tryd.stringslite_Clone s W hlim
  go_enter Tryd.func24, Tryd.ntmps24
  go_wp2_with (go_at_call 33; refine (c1 _).mono ?_; rintro e w1 ⟨rfl, hb1⟩)
  go_ret
  exact ⟨rfl, hb1⟩

theorem ok_ascii {s : ByteArray} (h : s.data.toList.all okByte = true) : ∀ (j : Nat) b, s.data.toList[j]? = some b → b.toNat < 128 := by
  intro j b hb
  rw [List.all_eq_true] at h
  have := h b (List.mem_of_getElem? hb)
  unfold okByte at this
  have := of_decide_eq_true this
  omega

theorem fieldsGo_small : ∀ (l cur : List UInt8), ∀ x ∈ Lib.fieldsGo cur l, x.length ≤ cur.length + l.length
  | [], cur, x, hx => by
    simp only [Lib.fieldsGo] at hx
    split at hx
    · simp at hx
    · simp at hx; subst hx; omega
  | b :: l, cur, x, hx => by
    simp only [Lib.fieldsGo] at hx
    split at hx
    · split at hx
      · have := fieldsGo_small l [] x hx; simp at this ⊢; omega
      · rcases List.mem_cons.1 hx with rfl | hx
        · simp
        · have := fieldsGo_small l [] x hx; simp at this ⊢; omega
    · have := fieldsGo_small l (cur ++ [b]) x hx; simp at this ⊢; omega

end Go.Proofs.YtnikehgmopcocaaDoor
