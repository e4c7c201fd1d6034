import Derived.Test.YtnjcmknjfonjpaaDoorSDig2
import Derived.Test.YtnjcmknjfonjpaaDoorHexB
import Derived.Laws.DeepStrings4
namespace Go.Proofs.YtnjcmknjfonjpaaDoor
open Go.RowKit

theorem digestOf_size (s : ByteArray) : (digestOf s).size = 32 := by
  show (stText _ 8).toArray.size = 32
  rw [List.size_toArray, stText_length]

theorem spec_digestHex (s : ByteArray) (w : World) (hs : s.size ≤ 1048576) :
    Calls Tryd.prog 18 #[.string s] w fun e w' => e = .returned (.string (hexText (digestOf s))) ∧ Below w.heap.size w w' := by
  have c1 := fun W => spec_digest s W hs
  have c2 := fun W => model_hex (digestOf s) W (by rw [digestOf_size]; omega)
  generalize hexText (digestOf s) = h at c2
  generalize digestOf s = t at c1 c2
  go_enter Tryd.func18, Tryd.ntmps18
  go_wp2_with (first
    | (go_at_call 16; refine (c1 _).mono ?_; rintro e w1 ⟨rfl, hb1⟩)
    | (go_at_call 33; refine (c2 _).mono ?_; rintro e w2 ⟨rfl, hb2⟩))
  go_ret
  exact ⟨rfl, hb1.trans (hb2.mono hb1.size)⟩

theorem impl_digestHex (s : ByteArray) (w : World) (hs : s.size ≤ 1048576) (hk : Keys w) (hst : Starts w) :
    Calls Tryd.prog 19 #[.string s] w fun e w' => e = .returned (.string (hexText (digestOf s))) ∧ Below w.heap.size w w' := by
  have c1 := impl_digest s w hs hk hst
  have c2 := fun W => program_hex (digestOf s) W (by rw [digestOf_size]; omega)
  generalize hexText (digestOf s) = h at c2
  generalize digestOf s = t at c1 c2
  go_enter Tryd.func19, Tryd.ntmps19
  go_wp2_with (first
    | (go_at_call 17; refine c1.mono ?_; rintro e w1 ⟨rfl, hb1⟩)
    | (go_at_call 34; refine (c2 _).mono ?_; rintro e w2 ⟨rfl, hb2⟩))
  go_ret
  exact ⟨rfl, hb1.trans (hb2.mono hb1.size)⟩

theorem spec_in (x lo hi : Int) (w : World) :
    Calls Tryd.prog 22 #[.int .i64 x, .int .i64 lo, .int .i64 hi] w fun e w' => e = .returned (.bool (decide (lo ≤ x ∧ x ≤ hi))) ∧ w = w' := by
  by_cases h1 : lo ≤ x
  · by_cases h2 : x ≤ hi
    · go_enter Tryd.func22, Tryd.ntmps22
      go_wp2
      go_ret
      simp [h1, h2]
    · have h2' : hi < x := by omega
      go_enter Tryd.func22, Tryd.ntmps22
      go_wp2
      go_ret
      simp [h2]
  · have h1' : x < lo := by omega
    go_enter Tryd.func22, Tryd.ntmps22
    go_wp2
    go_ret
    simp
    omega

/-- What CutDigest answers. -/
def cutOf (s : ByteArray) (x : Int) : ByteArray := if 1 ≤ x ∧ x ≤ 32 then (digestOf s).extract 0 x.toNat else ⟨#[]⟩

theorem slice_cut (t : ByteArray) (x : Int) (h1 : 0 ≤ x) (h2 : x ≤ (t.size : Int)) (W : World) :
    (Instr.slice 9 (.string t) none (some (.int .i64 x)) none).run Tryd.prog W = .ok (.string (t.extract 0 x.toNat)) W := by
  have h3 : ((t.size : Nat) : Int) ≤ (t.size : Int) := Int.le_refl _
  simp [Instr.slice, run_underlying Tryd.underlying9, Instr.sliceBounds, Instr.sliceBound, asIntOf, h1, h2]

theorem spec_cut (s : ByteArray) (x : Int) (w : World) (hs : s.size ≤ 1048576) :
    Calls Tryd.prog 20 #[.string s, .int .i64 x] w fun e w' => e = .returned (.string (cutOf s x)) ∧ Below w.heap.size w w' := by
  have c1 := fun W => spec_digest s W hs
  have c2 := fun W => spec_in x 1 32 W
  by_cases h : 1 ≤ x ∧ x ≤ 32
  · have hd : decide (1 ≤ x ∧ x ≤ 32) = true := by simpa using h
    have hc : cutOf s x = (digestOf s).extract 0 x.toNat := by rw [cutOf, if_pos h]
    have hsl := slice_cut (digestOf s) x (by omega) (by rw [digestOf_size]; omega)
    rw [hc]
    rw [hd] at c2
    generalize (digestOf s).extract 0 x.toNat = r at hsl
    generalize digestOf s = t at c1 hsl
    go_enter Tryd.func20, Tryd.ntmps20
    go_wp2_with (first
      | (go_at_call 16; refine (c1 _).mono ?_; rintro e w1 ⟨rfl, hb1⟩)
      | (go_at_call 22; refine (c2 _).mono ?_; rintro e w2 ⟨rfl, rfl⟩))
    go_ret
    exact ⟨rfl, hb1⟩
  · have hd : decide (1 ≤ x ∧ x ≤ 32) = false := by simpa using h
    have hc : cutOf s x = ⟨#[]⟩ := by rw [cutOf, if_neg h]
    rw [hc]
    rw [hd] at c2
    go_enter Tryd.func20, Tryd.ntmps20
    go_wp2_with (go_at_call 22; refine (c2 _).mono ?_; rintro e w2 ⟨rfl, rfl⟩)
    go_ret
    exact ⟨rfl, Below.refl _ _⟩

theorem impl_cut (s : ByteArray) (x : Int) (w : World) (hs : s.size ≤ 1048576) (hk : Keys w) (hst : Starts w) :
    Calls Tryd.prog 21 #[.string s, .int .i64 x] w fun e w' => e = .returned (.string (cutOf s x)) ∧ Below w.heap.size w w' := by
  have c1 := impl_digest s w hs hk hst
  by_cases h1 : x < 1
  · have hc : cutOf s x = ⟨#[]⟩ := by rw [cutOf, if_neg (by omega)]
    rw [hc]
    go_enter Tryd.func21, Tryd.ntmps21
    go_wp2_with (fail)
    go_ret
    exact ⟨rfl, Below.refl _ _⟩
  · by_cases h2 : 32 < x
    · have hc : cutOf s x = ⟨#[]⟩ := by rw [cutOf, if_neg (by omega)]
      have h1' : 1 ≤ x := by omega
      rw [hc]
      go_enter Tryd.func21, Tryd.ntmps21
      go_wp2_with (fail)
      go_ret
      exact ⟨rfl, Below.refl _ _⟩
    · have h1' : 1 ≤ x := by omega
      have h2' : x ≤ 32 := by omega
      have hc : cutOf s x = (digestOf s).extract 0 x.toNat := by rw [cutOf, if_pos (by omega)]
      have hsl := slice_cut (digestOf s) x (by omega) (by rw [digestOf_size]; omega)
      rw [hc]
      generalize (digestOf s).extract 0 x.toNat = r at hsl
      generalize digestOf s = t at c1 hsl
      go_enter Tryd.func21, Tryd.ntmps21
      go_wp2_with (go_at_call 17; refine c1.mono ?_; rintro e w1 ⟨rfl, hb1⟩)
      go_ret
      exact ⟨rfl, hb1⟩
end Go.Proofs.YtnjcmknjfonjpaaDoor
