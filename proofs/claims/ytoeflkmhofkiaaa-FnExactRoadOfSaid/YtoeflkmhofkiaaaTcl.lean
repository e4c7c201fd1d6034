import Init
namespace Go.Proofs.Ytoeflkmhofkiaaa
set_option maxRecDepth 100000

/-! Symbolic authentication codes (chapter 15), on lists. -/
structure Tv where
  kind : Int
  one : Int
  two : Int
  a : Int
  b : Int
def Tv.zero : Tv := ⟨0, 0, 0, 0, 0⟩
instance : Inhabited Tv := ⟨Tv.zero⟩
instance : DecidableEq Tv := fun x y =>
  if h : x.kind = y.kind ∧ x.one = y.one ∧ x.two = y.two ∧ x.a = y.a ∧ x.b = y.b then isTrue (by cases x; cases y; simp_all) else isFalse (fun e => h (by rw [e]; exact ⟨rfl, rfl, rfl, rfl, rfl⟩))
/-- What can be made out of keys and tags. -/
def canMk (ks : List Int) (ts : List Tv) (t : Tv) : Bool := decide (t = Tv.zero) || (decide (t.one ∈ ks) && decide (t.two ∈ ks)) || decide (t ∈ ts.take 300)
def learnTs (ks : List Int) (ts : List Tv) (t : Tv) : List Tv := if (!canMk ks ts t && decide (ts.length < 300)) = true then ts ++ [t] else ts
theorem learn_len (ks : List Int) (ts : List Tv) (t : Tv) : (learnTs ks ts t).length ≤ ts.length + 1 := by
  unfold learnTs
  split <;> simp
end Go.Proofs.Ytoeflkmhofkiaaa
