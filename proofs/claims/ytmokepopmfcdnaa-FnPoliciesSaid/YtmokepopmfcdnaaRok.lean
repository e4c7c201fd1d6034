import Derived.Test.YtmokepopmfcdnaaRif
import Derived.Test.YtmokepopmfcdnaaAif
import Derived.Test.YtmokepopmfcdnaaAok
import Derived.Test.YtmokepopmfcdnaaAos
namespace Go.Proofs.Ytmokepopmfcdnaa
open Go.RowKit

def backR (r : Rv) : Rv := ⟨r.far, r.own, r.port⟩
theorem back_back (r : Rv) : backR (backR r) = r := rfl

set_option maxRecDepth 100000 in
theorem impl_roadBack (m : Rv) (w : World) :
    Calls Try.prog 12 #[.agg #[.int .i64 m.own, .int .i64 m.far, .int .i64 m.port]] w fun e w' => e = .returned (.agg #[.int .i64 (backR m).own, .int .i64 (backR m).far, .int .i64 (backR m).port]) ∧ Below w.heap.size w w' := by
  have hb : Below w.heap.size w ((w.alloc (.cells #[.int .i64 m.own, .int .i64 m.far, .int .i64 m.port] 34)).alloc (.cells #[.int .i64 m.far, .int .i64 m.own, .int .i64 m.port] 34)) := ((Below.refl _ _).alloc (Nat.le_refl _) _).alloc (by simp) _
  have HB := Lib.hid hb
  clear hb
  go_enter Try.func12, Try.ntmps12
  go_wp2_with (fail)
  exact bodyPost_ret (v := .agg #[.int .i64 m.far, .int .i64 m.own, .int .i64 m.port]) (by simp [results, Try.results12, go_sem]) rfl ⟨rfl, HB.out⟩
set_option maxRecDepth 100000 in
theorem spec_roadBack (m : Rv) (w : World) :
    Calls Try.prog 28 #[.agg #[.int .i64 m.own, .int .i64 m.far, .int .i64 m.port]] w fun e w' => e = .returned (.agg #[.int .i64 (backR m).own, .int .i64 (backR m).far, .int .i64 (backR m).port]) ∧ Below w.heap.size w w' := by
  have hb : Below w.heap.size w ((w.alloc (.cells #[.int .i64 m.own, .int .i64 m.far, .int .i64 m.port] 34)).alloc (.cells #[.int .i64 m.far, .int .i64 m.own, .int .i64 m.port] 34)) := ((Below.refl _ _).alloc (Nat.le_refl _) _).alloc (by simp) _
  have HB := Lib.hid hb
  clear hb
  go_enter Try.func28, Try.ntmps28
  go_wp2_with (fail)
  exact bodyPost_ret (v := .agg #[.int .i64 m.far, .int .i64 m.own, .int .i64 m.port]) (by simp [results, Try.results28, go_sem]) rfl ⟨rfl, HB.out⟩

theorem below_pol (w : World) (k m : Int) : Below w.heap.size w (w.alloc (.cells #[.int .i64 k, .int .i64 m] 25)) := below_new _ _

set_option maxRecDepth 100000 in
theorem spec_policyOk (kd mn : Int) (w : World) :
    Calls Try.prog 16 #[.agg #[.int .i64 kd, .int .i64 mn]] w fun e w' => e = .returned (.bool (polOk kd mn)) ∧ Below w.heap.size w w' := by
  have c1 := fun W => spec_in mn 1 8 W
  generalize hr : polOk kd mn = r
  have HB := Lib.hid (below_pol w kd mn)
  unfold polOk at hr
  by_cases h2 : kd = 2
  · subst h2
    have e : decide (1 ≤ mn ∧ mn ≤ 8) = r := by rw [← hr]; exact decide_eq_decide.2 ⟨fun h => .inl ⟨rfl, h⟩, fun h => by omega⟩
    rw [e] at c1
    clear hr e
    go_enter Try.func16, Try.ntmps16
    go_wp2_with (fail)
    with_reducible refine (c1 _).mono ?_
    rintro e w1 ⟨rfl, rfl⟩
    clear c1
    go_wp2_with (fail)
    go_ret
    exact ⟨rfl, HB.out⟩
  · have b2 : (kd == 2) = false := by simpa using h2
    by_cases h1 : kd = 1
    · subst h1
      have e : (mn == 0) = r := by
        rw [← hr]
        by_cases h0 : mn = 0
        · subst h0; rfl
        · rw [decide_eq_false (by omega)]; simpa using h0
      clear hr c1 h2
      go_enter Try.func16, Try.ntmps16
      go_wp2_with (fail)
      go_ret
      exact ⟨by first | rfl | rw [e], HB.out⟩
    · have b1 : (kd == 1) = false := by simpa using h1
      by_cases h3 : kd = 3
      · subst h3
        have e : (mn == 0) = r := by
          rw [← hr]
          by_cases h0 : mn = 0
          · subst h0; rfl
          · rw [decide_eq_false (by omega)]; simpa using h0
        clear hr c1 h2 h1
        go_enter Try.func16, Try.ntmps16
        go_wp2_with (fail)
        go_ret
        exact ⟨by first | rfl | rw [e], HB.out⟩
      · have b3 : (kd == 3) = false := by simpa using h3
        obtain rfl : false = r := by rw [← hr]; exact (decide_eq_false (by omega)).symm
        clear hr c1 h2 h1 h3
        go_enter Try.func16, Try.ntmps16
        go_wp2_with (fail)
        go_ret
        exact ⟨rfl, HB.out⟩

/-- What a policy does: the function that wantingOf answers. -/
def WantF (W : World) (B : Nat) (kd mn : Int) (v : Value) : Prop :=
  if polOk kd mn = true then (if kd = 1 then v = .func (.func 47) #[] #[] else ∃ g, v = .func (.func 52) #[] #[.pointer (some ⟨g, 0, none⟩)] ∧ B ≤ g ∧ Cel W g 3 #[.int .i64 (manyR kd mn : Int)]) else v = .nilFunc

set_option maxRecDepth 100000 in
theorem impl_portsOf (n : Int) (w : World) :
    Calls Try.prog 48 #[.int .i64 n] w fun e w' => e = .returned (.func (.func 52) #[] #[.pointer (some ⟨w.heap.size, 0, none⟩)]) ∧ Cel w' w.heap.size 3 #[.int .i64 n] ∧ Below w.heap.size w w' := by
  have HB := Lib.hid (And.intro (Cel.new w 3 #[.int .i64 n]) (below_new w (.cells #[.int .i64 n] 3)))
  go_enter Try.func48, Try.ntmps48
  go_wp2_with (fail)
  go_ret
  exact ⟨rfl, HB.out⟩
end Go.Proofs.Ytmokepopmfcdnaa
