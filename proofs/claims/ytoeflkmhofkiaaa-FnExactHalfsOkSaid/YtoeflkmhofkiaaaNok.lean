import Derived.Test.YtoeflkmhofkiaaaGtb
import Derived.Test.YtoeflkmhofkiaaaAif
namespace Go.Proofs.Ytoeflkmhofkiaaa
open Go.RowKit
set_option maxRecDepth 100000

set_option linter.unusedSimpArgs false in
set_option maxRecDepth 100000 in
set_option maxHeartbeats 4000000 in
theorem impl_numbersOk (v : Value) (zs : List Int) (w : World) (hv : RdE intK w v zs) (hl : zs.length ≤ 1048577) :
    Calls Try.prog 68 #[v] w fun e w' => e = .returned (.bool (zs.all fun n => decide ((0 : Int) ≤ n ∧ n ≤ 1000000000))) ∧ w = w' := by
  obtain ⟨a, c, rfl⟩ := hv.form
  obtain ⟨res, hres⟩ : ∃ res, (zs.all fun n => decide ((0 : Int) ≤ n ∧ n ≤ 1000000000)) = res := ⟨_, rfl⟩
  rw [hres]
  have HR := Lib.hid (And.intro hres hv)
  clear hres hv
  go_enter Try.func68, Try.ntmps68
  go_wp2_with (fail)
  go_loop [7] (fun i => ∃ k : Nat, k ≤ zs.length ∧ i = .int .i64 k ∧ ((zs.drop k).all fun n => decide ((0 : Int) ≤ n ∧ n ≤ 1000000000)) = res) (fun i => zs.length - (intOf i).toNat)
  case atStart => exact ⟨0, by omega, rfl, HR.out.1⟩
  case round =>
    obtain ⟨k, hk, rfl, hr⟩ := hrel
    by_cases hlt : k < zs.length
    · have q : (0 : Int) ≤ (k : Int) ∧ (k : Int) < (zs.length : Int) := by omega
      obtain ⟨b, off, ha, -, kc⟩ := int_at HR.out.2 k hlt
      subst ha
      rw [List.drop_eq_getElem_cons hlt, List.all_cons] at hr
      generalize zs[k] = z at *
      have c1 := fun W => impl_within z 0 1000000000 W
      go_wp2_with (fail)
      with_reducible refine (c1 _).mono ?_
      rintro e w3 ⟨rfl, rfl⟩
      clear c1 kc
      cases hz : decide ((0 : Int) ≤ z ∧ z ≤ 1000000000) with
      | true =>
        rw [hz, Bool.true_and] at hr
        have HX := Lib.hid hr
        clear hr hz
        go_wp2_with (fail)
        go_round
        case rel => exact ⟨k + 1, by omega, by go_num, HX.out⟩
        case measure => simp [intOf]; omega
      | false =>
        rw [hz, Bool.false_and] at hr
        subst hr
        clear hz
        go_wp2_with (fail)
        go_ret
        exact ⟨rfl, rfl⟩
    · obtain rfl : k = zs.length := by omega
      have q : ¬ (zs.length : Int) < (zs.length : Int) := by omega
      obtain rfl : true = res := by rw [← hr, List.drop_eq_nil_of_le (by omega)]; rfl
      clear hr
      go_wp2_with (fail)
      go_ret
      exact ⟨rfl, rfl⟩
end Go.Proofs.Ytoeflkmhofkiaaa
