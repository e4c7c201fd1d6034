namespace Go.Proofs.Ytihogaabojnbpaa

/-- A bucket. -/
structure Bt where
  rate : Int
  burst : Int
  hav : Int
def Bt.zero : Bt := ⟨0, 0, 0⟩
def Bt.Ok (b : Bt) : Prop := 0 ≤ b.rate ∧ b.rate ≤ 100 ∧ 1 ≤ b.burst ∧ b.burst ≤ 100 ∧ 0 ≤ b.hav ∧ b.hav ≤ b.burst
instance (b : Bt) : Decidable b.Ok := by unfold Bt.Ok; infer_instance
def stB (b : Bt) : Int := if b.Ok then (if b.hav = 0 then 1 else 2) else 0
def newB (r u : Int) : Bt × Bool := if Bt.Ok ⟨r, u, u⟩ then (⟨r, u, u⟩, true) else (Bt.zero, false)
def takeB (b : Bt) : Bt × Bool := if b.Ok ∧ b.hav ≠ 0 then (⟨b.rate, b.burst, b.hav - 1⟩, true) else (b, false)
def fillB (b : Bt) (k : Int) : Bt := if b.Ok ∧ 0 ≤ k ∧ k ≤ 1000000000 then ⟨b.rate, b.burst, min (b.hav + b.rate * k) b.burst⟩ else b
def mostB (b : Bt) (k : Int) : Int := if b.Ok ∧ 0 ≤ k ∧ k ≤ 100000 then b.burst + b.rate * k else 0
/-- So many calls, one behind the other. -/
def tksB : Nat → Bt × List Bool → Bt × List Bool
  | 0, p => p
  | n + 1, p => ((takeB (tksB n p).1).1, (tksB n p).2 ++ [(takeB (tksB n p).1).2])
/-- One tick. -/
def tickB (p : Bt × List Bool) (a : Int) : Bt × List Bool := tksB (min a 20).toNat (fillB p.1 1, p.2)
def runB (b : Bt) (asks : List Int) : List Bool := if b.Ok ∧ asks.length ≤ 200 then (asks.foldl tickB (b, [])).2 else []

theorem take_ok (b : Bt) (h : b.Ok) : (takeB b).1.Ok := by
  unfold takeB
  split
  · unfold Bt.Ok at *
    simp only
    omega
  · exact h
theorem fill_ok (b : Bt) (h : b.Ok) : (fillB b 1).Ok := by
  unfold fillB
  rw [if_pos ⟨h, by omega, by omega⟩]
  unfold Bt.Ok at *
  simp only
  omega
theorem tks_ok (n : Nat) (p : Bt × List Bool) (h : p.1.Ok) : (tksB n p).1.Ok := by
  induction n with
  | zero => exact h
  | succ n ih => exact take_ok _ ih
theorem tick_ok (p : Bt × List Bool) (a : Int) (h : p.1.Ok) : (tickB p a).1.Ok := tks_ok _ _ (fill_ok _ h)
theorem fold_ok (asks : List Int) (p : Bt × List Bool) (h : p.1.Ok) : (asks.foldl tickB p).1.Ok := by
  induction asks generalizing p with
  | nil => exact h
  | cons a r ih => exact ih _ (tick_ok p a h)
theorem tks_len (n : Nat) (p : Bt × List Bool) : (tksB n p).2.length = p.2.length + n := by
  induction n with
  | zero => rfl
  | succ n ih => simp only [tksB, List.length_append, List.length_singleton, ih]; omega
theorem tick_len (p : Bt × List Bool) (a : Int) : (tickB p a).2.length ≤ p.2.length + 20 := by
  unfold tickB
  rw [tks_len]
  simp only
  omega
theorem fold_len (asks : List Int) (p : Bt × List Bool) : (asks.foldl tickB p).2.length ≤ p.2.length + asks.length * 20 := by
  induction asks generalizing p with
  | nil => simp
  | cons a r ih =>
    have h1 := ih (tickB p a)
    have h2 := tick_len p a
    simp only [List.foldl_cons, List.length_cons]
    omega
theorem run_len (b : Bt) (asks : List Int) : (runB b asks).length ≤ 4000 := by
  unfold runB
  split
  · rename_i h
    have := fold_len asks (b, [])
    simp only [List.length_nil] at this
    omega
  · exact Nat.zero_le _
theorem fold_snoc (asks : List Int) (k : Nat) (h : k < asks.length) (p : Bt × List Bool) : (asks.take (k + 1)).foldl tickB p = tickB ((asks.take k).foldl tickB p) asks[k] := by
  rw [List.take_succ_eq_append_getElem h, List.foldl_append]
  rfl
end Go.Proofs.Ytihogaabojnbpaa
