import Derived.Test.YtdajfnonehianaaPxp
import Derived.Test.YtdajfnonehianaaLng
namespace Go.Proofs.Ytdajfnonehianaa
open Go.RowKit

/-- Pieces behind one another, each of one byte. -/
def zsP (n : Nat) : List Pc := (List.range n).map fun (i : Nat) => ⟨100 + 2 * (i : Int), ⟨#[122]⟩⟩
theorem zsP_succ (n : Nat) : zsP (n + 1) = zsP n ++ [⟨100 + 2 * (n : Int), ⟨#[122]⟩⟩] := by
  unfold zsP
  rw [List.range_succ, List.map_append]
  rfl
theorem zsP_length (n : Nat) : (zsP n).length = n := by unfold zsP; simp
theorem zsP_sum (n : Nat) : sumP (zsP n) = n := by
  induction n with
  | zero => rfl
  | succ n ih => rw [zsP_succ, sumP_append, ih]; rfl
/-- A string of two. -/
noncomputable def pickT (s : St) : ByteArray := if byteR s % 2 = 0 then ⟨#[]⟩ else ⟨#[97]⟩
noncomputable def anyP (s : St) : Ps × St :=
  if byteR (piecesS s).2 % 16 = 0 then (⟨([-1, 1000000001, 1000000000] : List Int).getD (byteR (byteS (piecesS s).2) % 3) 0, (piecesS s).1.ready, (piecesS s).1.list⟩, byteS (byteS (piecesS s).2))
  else if byteR (piecesS s).2 % 16 = 1 then (⟨(piecesS s).1.read, (piecesS s).1.ready, (piecesS s).1.list ++ [⟨((byteR (byteS (piecesS s).2) % 60 : Nat) : Int), pickT (byteS (byteS (piecesS s).2))⟩]⟩, byteS (byteS (byteS (piecesS s).2)))
  else if byteR (piecesS s).2 % 16 = 2 then (⟨(piecesS s).1.read, ⟨(List.replicate (([190, 200, 201] : List Int).getD (byteR (byteS (piecesS s).2) % 3) 0).toNat (97 : UInt8)).toArray⟩, (piecesS s).1.list⟩, byteS (byteS (piecesS s).2))
  else if byteR (piecesS s).2 % 16 = 3 then (⟨(piecesS s).1.read, (piecesS s).1.ready, (piecesS s).1.list ++ zsP 20⟩, byteS (piecesS s).2)
  else ((piecesS s).1, byteS (piecesS s).2)
def MidP (p : Ps) : Prop := p.ready.size + sumP p.list ≤ 1000 ∧ p.list.length ≤ 100
theorem any_ok (s : St) (hs : StOk s) : MidP (anyP s).1 ∧ StOk (anyP s).2 ∧ (anyP s).2.bs = s.bs := by
  obtain ⟨h1, h2, h3⟩ := pieces_ok s hs
  have k1 := byte_ok h2
  have k2 := byte_ok k1
  have k3 := byte_ok k2
  have e1 := (byte_f _ h2).2.2.1
  have e2 := (byte_f _ k1).2.2.1
  have e3 := (byte_f _ k2).2.2.1
  unfold SmallP at h1
  unfold anyP MidP
  split
  · exact ⟨⟨by simp only; omega, by simp only; omega⟩, k2, (e2.trans e1).trans h3⟩
  · split
    · refine ⟨⟨?_, ?_⟩, k3, ((e3.trans e2).trans e1).trans h3⟩
      · simp only [sumP_append]
        have : sumP [(⟨((byteR (byteS (piecesS s).2) % 60 : Nat) : Int), pickT (byteS (byteS (piecesS s).2))⟩ : Pc)] ≤ 1 := by
          unfold pickT
          split <;> simp [sumP, ByteArray.size]
        omega
      · simp only [List.length_append, List.length_singleton]
        omega
    · split
      · refine ⟨⟨?_, by simp only; omega⟩, k2, (e2.trans e1).trans h3⟩
        have hz : (([190, 200, 201] : List Int).getD (byteR (byteS (piecesS s).2) % 3) 0).toNat ≤ 201 := by
          have : byteR (byteS (piecesS s).2) % 3 < 3 := Nat.mod_lt _ (by omega)
          generalize byteR (byteS (piecesS s).2) % 3 = j at *
          match j, this with
          | 0, _ => decide
          | 1, _ => decide
          | 2, _ => decide
        simp only [ByteArray.size, List.size_toArray, List.length_replicate]
        have h4 : sumP (piecesS s).1.list ≤ 200 := by omega
        omega
      · split
        · refine ⟨⟨?_, ?_⟩, k1, e1.trans h3⟩
          · simp only [sumP_append, zsP_sum]
            omega
          · simp only [List.length_append, zsP_length]
            omega
        · exact ⟨⟨by simp only; omega, by simp only; omega⟩, k1, e1.trans h3⟩

theorem pick_x (s : St) (hs : StOk s) (zs : List Int) (n : Nat) (hn : zs.length = n) (h0 : 0 < n) (hl : n ≤ 256) (w : World) (g : Nat) (v : Value) (hd : DrX w g v s) (b cap : Nat) (cs : Array Value) (hcs : (zs.map (Value.int .i64)).toArray = cs) (hc : Cel w b 3 cs) (hb : b ≠ g) :
    Calls Try.prog 37 #[.pointer (some ⟨g, 0, none⟩), .slice (some ⟨b, 0, none⟩) n cap] w fun e w' => e = .returned (.int .i64 (zs.getD (byteR s % n) 0)) ∧ DrX w' g v (byteS s) ∧ Only g w w' := by
  subst hn hcs
  exact pick_f s hs zs h0 hl w g v hd b cap hc hb
set_option maxRecDepth 100000 in
theorem pickT_x (s : St) (hs : StOk s) (w : World) (g : Nat) (v : Value) (hd : DrX w g v s) (b cap : Nat) (hc : Cel w b 9 #[.string ⟨#[]⟩, .string ⟨#[97]⟩]) (hb : b ≠ g) :
    Calls Try.prog 60 #[.pointer (some ⟨g, 0, none⟩), .slice (some ⟨b, 0, none⟩) 2 cap] w fun e w' => e = .returned (.string (pickT s)) ∧ DrX w' g v (byteS s) ∧ Only g w w' := by
  have cb := bel_x s hs 2 (by omega) (by omega) 2 rfl w g v hd
  have hr : byteR s % 2 < 2 := Nat.mod_lt _ (by omega)
  unfold pickT
  generalize byteR s % 2 = r at *
  generalize byteS s = s1 at *
  clear hd
  match r, hr with
  | 0, _ =>
    rw [if_pos rfl]
    go_enter Try.func60, Try.ntmps60
    go_wp2_with (fail)
    with_reducible refine cb.mono ?_
    rintro e w1 ⟨rfl, d1, o1⟩
    have hcell : w1.cell? ⟨b, 0, none⟩ = some (.string ⟨#[]⟩) := (hc.only o1 hb).cell 0
    go_wp2_with (fail)
    go_ret
    exact ⟨rfl, d1, o1⟩
  | 1, _ =>
    rw [if_neg (by omega)]
    go_enter Try.func60, Try.ntmps60
    go_wp2_with (fail)
    with_reducible refine cb.mono ?_
    rintro e w1 ⟨rfl, d1, o1⟩
    have hcell : w1.cell? ⟨b, 1, none⟩ = some (.string ⟨#[97]⟩) := (hc.only o1 hb).cell 1
    go_wp2_with (fail)
    go_ret
    exact ⟨rfl, d1, o1⟩
end Go.Proofs.Ytdajfnonehianaa
