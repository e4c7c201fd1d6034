import Derived.Test.YtdajfnonehianaaQol
namespace Go.Proofs.Ytdajfnonehianaa

/-- So many bytes are taken. -/
def accN (o : Ot) (x : ByteArray) : Int := min (x.size : Int) (o.room - (o.text.size : Int))
def acc (o : Ot) (x : ByteArray) : Ot × Int :=
  if o.Ok ∧ o.base + (o.text.size : Int) + accN o x ≤ 1000000000 then (⟨o.text ++ x.extract 0 (accN o x).toNat, o.base, o.sent, o.room⟩, accN o x) else (o, 0)
/-- The next piece. -/
def nxt (o : Ot) : Pc × Bool :=
  if o.Ok ∧ o.sent ≠ o.base + (o.text.size : Int) then (⟨o.sent, firstOf (o.text.extract (o.sent - o.base).toNat o.text.size) 20⟩, true) else (⟨0, ⟨#[]⟩⟩, false)
def was (o : Ot) : Ot := ⟨o.text, o.base, o.sent + ((nxt o).1.text.size : Int), o.room⟩
def came (o : Ot) (u : Int) : Ot :=
  if o.Ok ∧ o.base + 1 ≤ u ∧ u ≤ o.base + (o.text.size : Int) then ⟨o.text.extract (u - o.base).toNat o.text.size, u, max o.sent u, o.room⟩ else o
def anw (o : Ot) : Ot := if o.Ok then ⟨o.text, o.base, o.base, o.room⟩ else o

theorem nxt_size (o : Ot) : (nxt o).1.text.size ≤ 20 ∧ ((nxt o).1.text.size : Int) ≤ (o.text.size : Int) := by
  unfold nxt
  split
  · have h := firstOf_size (o.text.extract (o.sent - o.base).toNat o.text.size) 20 (by omega)
    have h2 : (o.text.extract (o.sent - o.base).toNat o.text.size).size ≤ o.text.size := by simp only [ByteArray.size_extract]; omega
    simp only
    omega
  · exact ⟨Nat.zero_le _, Int.natCast_nonneg _⟩
end Go.Proofs.Ytdajfnonehianaa
