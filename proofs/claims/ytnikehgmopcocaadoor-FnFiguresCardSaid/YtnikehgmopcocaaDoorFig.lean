import Derived.Test.YtnikehgmopcocaaDoorPlaces
import Derived.Test.YtnikehgmopcocaaDoorHexI
import Derived.Test.YtnikehgmopcocaaDoorUnhex
import Derived.Test.YtnikehgmopcocaaDoorDec0
import Derived.Test.YtnikehgmopcocaaDoorRd0
import Derived.Deep.RegionLawGrows
import Derived.Test.YtnikehgmopcocaaDoorBig
namespace Go.Proofs.YtnikehgmopcocaaDoor
open Go.RowKit

/-- The byte that a figure is. -/
def figByte (x : Int) : UInt8 := UInt8.ofNat (fig x).toNat

theorem val_fig : ∀ m : Fin 16, val ((figByte (m.val : Int)).toNat : Int) = (m.val : Int) := by decide

theorem val_figByte (x : Int) (h0 : 0 ≤ x) (h1 : x < 16) : val ((figByte x).toNat : Int) = x := by
  have h := val_fig ⟨x.toNat, by omega⟩
  simp only [Int.toNat_of_nonneg h0] at h
  exact h

theorem unhex_hex (l : List UInt8) (acc : List Int) : unhexGo (l.flatMap fun c => [figByte ((c.toNat : Int) / 16), figByte ((c.toNat : Int) % 16)]) acc = some (acc ++ l.map fun c => (c.toNat : Int)) := by
  induction l generalizing acc with
  | nil => simp [unhexGo]
  | cons c l ih =>
    have hc := c.toNat_lt
    have e1 := val_figByte ((c.toNat : Int) / 16) (by omega) (by omega)
    have e2 := val_figByte ((c.toNat : Int) % 16) (by omega) (by omega)
    simp only [List.flatMap_cons, List.cons_append, List.nil_append, unhexGo, e1, e2]
    rw [if_neg (by omega), ih]
    have e3 : 16 * ((c.toNat : Int) / 16) + (c.toNat : Int) % 16 = (c.toNat : Int) := by omega
    rw [e3]
    simp

theorem hex_bytes (l : List UInt8) : (hexOf l).map (fun n => UInt8.ofNat n.toNat) = l.flatMap fun c => [figByte ((c.toNat : Int) / 16), figByte ((c.toNat : Int) % 16)] := by
  induction l with
  | nil => rfl
  | cons c l ih => simp only [hexOf, List.flatMap_cons, List.map_append, List.map_cons, List.map_nil] at ih ⊢; rw [ih]; rfl

theorem hexText_size (s : ByteArray) : (hexText s).size = 2 * s.size := by
  unfold hexText
  rw [strOfNums_size, hexOf_length]; simp

theorem unhex_hexText (s : ByteArray) (hs : s.size ≤ 20000) : unhexEnd (hexText s) = .tuple #[.string s, .bool true] := by
  have hz := hexText_size s
  unfold unhexEnd
  rw [if_pos ⟨by omega, by omega⟩]
  have e : (hexText s).data.toList = (hexOf s.data.toList).map fun n => UInt8.ofNat n.toNat := strOfNums_data _
  rw [e, hex_bytes, unhex_hex]
  simp only [List.nil_append]
  congr 3
  unfold strOfNums
  rw [List.map_map]
  have : ((fun n : Int => UInt8.ofNat n.toNat) ∘ fun c : UInt8 => (c.toNat : Int)) = id := by funext c; simp
  rw [this, List.map_id]

def brought (n l m : Int) : Int := if m < l ∨ n < l then l else if m < n then m else n

theorem brought_call (n l m : Int) (w : World) :
    Calls Tryd.prog 11 #[.int .i64 n, .int .i64 l, .int .i64 m] w fun e w' => e = .returned (.int .i64 (brought n l m)) ∧ w = w' := by
  by_cases h1 : m < l <;> by_cases h2 : n < l <;> by_cases h3 : m < n
  all_goals first | (exfalso; omega) | skip
  all_goals
    go_enter Tryd.func11, Tryd.ntmps11
    go_wp2
    go_ret
    refine ⟨ret_int ?_, rfl⟩
    unfold brought
    repeat' split
  all_goals omega
end Go.Proofs.YtnikehgmopcocaaDoor
