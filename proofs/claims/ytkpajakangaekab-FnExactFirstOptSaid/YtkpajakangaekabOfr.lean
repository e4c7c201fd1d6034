import Derived.Test.YtkpajakangaekabInr
import Derived.Test.YtkpajakangaekabNumI
import Derived.Deep.RegionHeld3
import Derived.Lib.Hide
namespace Go.Proofs.Ytkpajakangaekab
open Go.RowKit

/-- A text of just n bytes, or none. -/
def ofSz (t : ByteArray) (n : Int) : ByteArray := if (t.size : Int) = n then t else ⟨#[]⟩

theorem impl_ofsize (t : ByteArray) (n : Int) (w : World) :
    Calls Try.prog 100 #[.string t, .int .i64 n] w fun e w' => e = .returned (.string (ofSz t n)) ∧ w = w' := by
  unfold ofSz
  by_cases h : (t.size : Int) = n
  · rw [if_pos h]
    subst h
    go_enter Try.func100, Try.ntmps100
    go_wp2_with (fail)
    go_ret
    exact ⟨rfl, rfl⟩
  · rw [if_neg h]
    have h2 : ((t.size : Int) == n) = false := by simpa using h
    go_enter Try.func100, Try.ntmps100
    go_wp2_with (fail)
    go_ret
    exact ⟨rfl, rfl⟩

theorem ofSz_le (t : ByteArray) (n : Int) (h0 : 0 ≤ n) : ((ofSz t n).size : Int) ≤ n := by
  unfold ofSz
  split
  · omega
  · show (0 : Int) ≤ n; exact h0

theorem numTx_le (n m : Int) : (numText n m).size ≤ 6 := by
  unfold numText
  split
  · rename_i h
    show (numBytes _ _).toArray.size ≤ 6
    rw [List.size_toArray, numBytes_length]
    omega
  · show 0 ≤ 6
    omega

def flagTx (b : Bool) : ByteArray := numText (if b then 1 else 0) 1

theorem impl_flag (b : Bool) (w : World) :
    Calls Try.prog 103 #[.bool b] w fun e w' => e = .returned (.string (flagTx b)) ∧ Below w.heap.size w w' := by
  unfold flagTx
  cases b
  · go_enter Try.func103, Try.ntmps103
    go_wp2_with (fail)
    with_reducible refine (impl_numText 0 1 _).mono ?_
    rintro e w1 ⟨rfl, hb⟩
    go_wp2_with (fail)
    go_ret
    exact ⟨rfl, hb⟩
  · go_enter Try.func103, Try.ntmps103
    go_wp2_with (fail)
    with_reducible refine (impl_numText 1 1 _).mono ?_
    rintro e w1 ⟨rfl, hb⟩
    go_wp2_with (fail)
    go_ret
    exact ⟨rfl, hb⟩

theorem rdn (w : World) (xs : List Value) : VRd (w.alloc (.cells xs.toArray 9)) (.slice (some ⟨w.heap.size, 0, none⟩) xs.length xs.length) xs := by
  refine ⟨_, _, rfl, fun _ => ⟨w.heap.size, 0, rfl, fun j hj => ?_⟩⟩
  rw [(Cel.new w 9 xs.toArray).cell (0 + j)]
  simp [hj]

theorem joinOf_size (xs : List ByteArray) : (joinOf xs).size = (xs.map (·.size)).sum := by
  show ((xs.map (·.data.toList)).flatten.toArray).size = _
  rw [List.size_toArray, List.length_flatten, List.map_map]
  congr 1

/-- Four parts, three. -/
theorem inarow4 (a b c d : ByteArray) (W : World) (h : a.size + b.size + c.size + d.size ≤ 1000) :
    Calls Try.prog 102 #[.slice (some ⟨W.heap.size, 0, none⟩) 4 4] (W.alloc (.cells #[.string a, .string b, .string c, .string d] 9)) fun e w' => e = .returned (.string (rowOf [a, b, c, d])) ∧ Below (W.alloc (.cells #[.string a, .string b, .string c, .string d] 9)).heap.size (W.alloc (.cells #[.string a, .string b, .string c, .string d] 9)) w' :=
  impl_inarow _ [a, b, c, d] _ (rdn W [.string a, .string b, .string c, .string d]) ⟨_, _, rfl, Nat.le_refl _⟩ (by simp) (by rw [joinOf_size]; simp; omega)
theorem inarow4d (a b c d : ByteArray) (W : World) (h : a.size + b.size + c.size + d.size ≤ 1000) :
    Calls Try.prog 102 #[.slice (some ⟨W.heap.size, 0, none⟩) 4 4] (W.alloc (.cells #[.string a, .string b, .string c, .string d] 9)).drew fun e w' => e = .returned (.string (rowOf [a, b, c, d])) ∧ Below (W.alloc (.cells #[.string a, .string b, .string c, .string d] 9)).drew.heap.size (W.alloc (.cells #[.string a, .string b, .string c, .string d] 9)).drew w' :=
  impl_inarow _ [a, b, c, d] _ ((show VRd (W.alloc _).drew _ _ from rdn W [.string a, .string b, .string c, .string d])) ⟨_, _, rfl, Nat.le_refl _⟩ (by simp) (by rw [joinOf_size]; simp; omega)
theorem inarow3 (a b c : ByteArray) (W : World) (h : a.size + b.size + c.size ≤ 1000) :
    Calls Try.prog 102 #[.slice (some ⟨W.heap.size, 0, none⟩) 3 3] (W.alloc (.cells #[.string a, .string b, .string c] 9)) fun e w' => e = .returned (.string (rowOf [a, b, c])) ∧ Below (W.alloc (.cells #[.string a, .string b, .string c] 9)).heap.size (W.alloc (.cells #[.string a, .string b, .string c] 9)) w' :=
  impl_inarow _ [a, b, c] _ (rdn W [.string a, .string b, .string c]) ⟨_, _, rfl, Nat.le_refl _⟩ (by simp) (by rw [joinOf_size]; simp; omega)
theorem inarow3d (a b c : ByteArray) (W : World) (h : a.size + b.size + c.size ≤ 1000) :
    Calls Try.prog 102 #[.slice (some ⟨W.heap.size, 0, none⟩) 3 3] (W.alloc (.cells #[.string a, .string b, .string c] 9)).drew fun e w' => e = .returned (.string (rowOf [a, b, c])) ∧ Below (W.alloc (.cells #[.string a, .string b, .string c] 9)).drew.heap.size (W.alloc (.cells #[.string a, .string b, .string c] 9)).drew w' :=
  impl_inarow _ [a, b, c] _ ((show VRd (W.alloc _).drew _ _ from rdn W [.string a, .string b, .string c])) ⟨_, _, rfl, Nat.le_refl _⟩ (by simp) (by rw [joinOf_size]; simp; omega)

/-- Four cells of a block stay. -/
theorem keep4 {w W W' : World} {g : Nat} {x0 x1 x2 x3 : Value} (h : W.cell? ⟨g, 0, none⟩ = some x0 ∧ W.cell? ⟨g, 1, none⟩ = some x1 ∧ W.cell? ⟨g, 2, none⟩ = some x2 ∧ W.cell? ⟨g, 3, none⟩ = some x3 ∧ Below w.heap.size w W) (hb : Below W.heap.size W W') :
    W'.cell? ⟨g, 0, none⟩ = some x0 ∧ W'.cell? ⟨g, 1, none⟩ = some x1 ∧ W'.cell? ⟨g, 2, none⟩ = some x2 ∧ W'.cell? ⟨g, 3, none⟩ = some x3 ∧ Below w.heap.size w W' := by
  obtain ⟨h0, h1, h2, h3, h4⟩ := h
  have hlt := World.block_lt_of_cell? _ _ h0
  have hc := fun j => hb.cell (p := ⟨g, j, none⟩) hlt
  exact ⟨by rw [hc]; exact h0, by rw [hc]; exact h1, by rw [hc]; exact h2, by rw [hc]; exact h3, Below.then_ h4 hb⟩
end Go.Proofs.Ytkpajakangaekab
