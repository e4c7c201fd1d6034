import Derived.Test.YtoeflkmhofkiaaaAcl
namespace Go.Proofs.Ytoeflkmhofkiaaa
set_option maxRecDepth 100000

/-! Policies and paths (chapter 12), on lists. -/
/-- A path. -/
structure Rv where
  own : Int
  far : Int
  port : Int
def Rv.zero : Rv := ⟨0, 0, 0⟩
instance : Inhabited Rv := ⟨Rv.zero⟩
instance : DecidableEq Rv := fun a b =>
  if h : a.own = b.own ∧ a.far = b.far ∧ a.port = b.port then isTrue (by cases a; cases b; simp_all) else isFalse (fun e => h (by rw [e]; exact ⟨rfl, rfl, rfl⟩))

def polOk (kind many : Int) : Bool := decide ((kind = 2 ∧ 1 ≤ many ∧ many ≤ 8) ∨ ((kind = 1 ∨ kind = 3) ∧ many = 0))
def rowR (a : Av) (fs : List Av) : List Rv := fs.map fun b => ⟨a.addr, b.addr, 0⟩
def meshR (os fs : List Av) : List Rv := os.flatMap fun a => rowR a fs
def portsR (x y : Int) (n : Nat) : List Rv := (List.range n).map fun (i : Nat) => (⟨x, y, (i : Int)⟩ : Rv)
def manyR (kind many : Int) : Nat := if kind = 2 then many.toNat else 1
def fitR (os fs : List Av) : Bool := decide ((1 ≤ os.length ∧ os.length ≤ 6) ∧ 1 ≤ fs.length ∧ fs.length ≤ 6)
def wantR (kind many : Int) (os fs : List Av) : List Rv :=
  if (polOk kind many && fitR os fs) = true then (if kind = 1 then (meshR os fs).take 8 else portsR (os.headD Av.zero).addr (fs.headD Av.zero).addr (manyR kind many)) else []
def shortR (ws hs : List Rv) : Bool := decide (ws.length ≤ 64 ∧ hs.length ≤ 64)
def missGo (hs : List Rv) : List Rv → List Rv
  | [] => []
  | r :: rest => if r ∈ hs then missGo hs rest else r :: missGo hs rest
def missR (ws hs : List Rv) : List Rv := if shortR ws hs = true then missGo hs ws else []

theorem row_len (a : Av) (fs : List Av) : (rowR a fs).length = fs.length := by simp [rowR]
theorem row_take (a : Av) (fs : List Av) (j : Nat) (h : j < fs.length) : rowR a (fs.take (j + 1)) = rowR a (fs.take j) ++ [⟨a.addr, fs[j].addr, 0⟩] := by
  unfold rowR
  rw [List.take_succ_eq_append_getElem h, List.map_append]
  rfl
theorem mesh_take (os fs : List Av) (i : Nat) (h : i < os.length) : meshR (os.take (i + 1)) fs = meshR (os.take i) fs ++ rowR os[i] fs := by
  unfold meshR
  rw [List.take_succ_eq_append_getElem h, List.flatMap_append]
  simp
theorem mesh_len (os fs : List Av) : (meshR os fs).length = os.length * fs.length := by
  induction os with
  | nil => simp [meshR]
  | cons a r ih =>
    have e : meshR (a :: r) fs = rowR a fs ++ meshR r fs := by simp [meshR]
    rw [e, List.length_append, ih, row_len, List.length_cons, Nat.add_mul, Nat.one_mul, Nat.add_comm]
theorem ports_len (x y : Int) (n : Nat) : (portsR x y n).length = n := by simp [portsR]
theorem ports_at (x y : Int) (n i : Nat) (h : i < n) : (portsR x y n)[i]'(by rw [ports_len]; exact h) = ⟨x, y, (i : Int)⟩ := by simp [portsR]
theorem ports_succ (x y : Int) (n : Nat) : portsR x y (n + 1) = portsR x y n ++ [⟨x, y, (n : Int)⟩] := by simp [portsR, List.range_succ]
theorem want_len (kind many : Int) (os fs : List Av) : (wantR kind many os fs).length ≤ 8 := by
  unfold wantR
  split
  · next h =>
    split
    · rw [List.length_take]; omega
    · rw [ports_len]
      unfold manyR
      split
      · have h1 := (Bool.and_eq_true_iff.1 h).1
        unfold polOk at h1
        have := of_decide_eq_true h1
        omega
      · omega
  · simp
theorem missGo_append (hs a b : List Rv) : missGo hs (a ++ b) = missGo hs a ++ missGo hs b := by
  induction a with
  | nil => rfl
  | cons x r ih =>
    simp only [List.cons_append, missGo, ih]
    split <;> simp
theorem missGo_take (hs ws : List Rv) (k : Nat) (h : k < ws.length) : missGo hs (ws.take (k + 1)) = missGo hs (ws.take k) ++ (if ws[k] ∈ hs then [] else [ws[k]]) := by
  rw [List.take_succ_eq_append_getElem h, missGo_append]
  congr 1
theorem missGo_len (hs ws : List Rv) : (missGo hs ws).length ≤ ws.length := by
  induction ws with
  | nil => simp [missGo]
  | cons x r ih =>
    unfold missGo
    split <;> simp <;> omega
theorem miss_len (ws hs : List Rv) : (missR ws hs).length ≤ ws.length := by
  unfold missR
  split
  · exact missGo_len hs ws
  · simp
end Go.Proofs.Ytoeflkmhofkiaaa
