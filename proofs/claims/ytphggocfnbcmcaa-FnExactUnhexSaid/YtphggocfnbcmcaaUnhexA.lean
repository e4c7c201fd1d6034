import Derived.Test.YtphggocfnbcmcaaHexB
namespace Go.Proofs.Ytphggocfnbcmcaa
open Go.RowKit

def val (n : Int) : Int := if 48 ≤ n ∧ n ≤ 57 then n - 48 else if 97 ≤ n ∧ n ≤ 102 then n - 97 + 10 else -1

theorem value_call (x : Int) (w : World) (h0 : 0 ≤ x) (h1 : x < 256) :
    Calls Try.prog 10 #[.int .u8 x] w fun e w' => e = .returned (.int .i64 (val x)) ∧ w = w' := by
  by_cases a : 48 ≤ x <;> by_cases b : x ≤ 57 <;> by_cases c : 97 ≤ x <;> by_cases d : x ≤ 102
  all_goals first | (exfalso; omega) | skip
  all_goals
    go_enter Try.func10, Try.ntmps10
    go_wp2
    go_ret
    exact ⟨ret_int (by unfold val; repeat' split
                       all_goals omega), rfl⟩

/-- Where the figure x stands among the sixteen. -/
theorem first_figure (x : Int) (h0 : 0 ≤ x) (h1 : x < 256) : firstIdx { data := #[48, 49, 50, 51, 52, 53, 54, 55, 56, 57, 97, 98, 99, 100, 101, 102] } x.toNat.toUInt8 = val x := by
  have h : ∀ m : Fin 256, firstIdx { data := #[48, 49, 50, 51, 52, 53, 54, 55, 56, 57, 97, 98, 99, 100, 101, 102] } (m.val.toUInt8) = val m.val := by decide +kernel
  have := h ⟨x.toNat, by omega⟩
  simpa [Int.toNat_of_nonneg h0] using this

theorem index_call (x : Int) (w : World) (h0 : 0 ≤ x) (h1 : x < 256) :
    Calls Try.prog 11 #[.string { data := #[48, 49, 50, 51, 52, 53, 54, 55, 56, 57, 97, 98, 99, 100, 101, 102] }, .int .u8 x] w fun e w' => e = .returned (.int .i64 (val x)) ∧ w = w' := by
  have hx : (callFunc 13 #[.string { data := #[48, 49, 50, 51, 52, 53, 54, 55, 56, 57, 97, 98, 99, 100, 101, 102] }, .int .u8 x]).run Try.prog w = .ok (.value (.int .i64 (val x))) w := by
    rw [run_callFunc_extern Try.func13 (by kernel_rfl) (by kernel_rfl) (by kernel_rfl) (e := Extern.BytealgIndexByte.indexByte) (by kernel_rfl), run_indexByte_string, first_figure x h0 h1]
    rfl
  go_enter Try.func11, Try.ntmps11
  go_wp2
  go_ret
  exact ⟨rfl, rfl⟩
end Go.Proofs.Ytphggocfnbcmcaa
