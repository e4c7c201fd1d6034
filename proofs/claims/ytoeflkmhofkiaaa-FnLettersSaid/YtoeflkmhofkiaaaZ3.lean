import Derived.Test.YtoeflkmhofkiaaaAcl
import Derived.Test.YtoeflkmhofkiaaaZ1
import Derived.Test.YtoeflkmhofkiaaaZ2
import Derived.Test.YtoeflkmhofkiaaaEkz
import Derived.StillTailTactics
import Derived.Deep.RegionHeld3
import Derived.Deep.Cut
import Derived.Laws.StructEq
import Derived.BigQuiet
import Derived.Deep.QuietTactic
namespace Go.Proofs.Ytoeflkmhofkiaaa
set_option maxRecDepth 100000

/-! Policies and paths (chapter 12), on lists. -/
/-- A path. -/
structure Rv where
  own : Int
  far : Int
  port : Int
def Rv.zero : Rv := ⟨0, 0, 0⟩
instance : Inhabited Rv := ⟨Rv.zero⟩
instance : DecidableEq Rv := fun a b =>
  if h : a.own = b.own ∧ a.far = b.far ∧ a.port = b.port then isTrue (by cases a; cases b; simp_all) else isFalse (fun e => h (by rw [e]; exact ⟨rfl, rfl, rfl⟩))

def polOk (kind many : Int) : Bool := decide ((kind = 2 ∧ 1 ≤ many ∧ many ≤ 8) ∨ ((kind = 1 ∨ kind = 3) ∧ many = 0))
def rowR (a : Av) (fs : List Av) : List Rv := fs.map fun b => ⟨a.addr, b.addr, 0⟩
def meshR (os fs : List Av) : List Rv := os.flatMap fun a => rowR a fs
def portsR (x y : Int) (n : Nat) : List Rv := (List.range n).map fun (i : Nat) => (⟨x, y, (i : Int)⟩ : Rv)
def manyR (kind many : Int) : Nat := if kind = 2 then many.toNat else 1
def fitR (os fs : List Av) : Bool := decide ((1 ≤ os.length ∧ os.length ≤ 6) ∧ 1 ≤ fs.length ∧ fs.length ≤ 6)
def wantR (kind many : Int) (os fs : List Av) : List Rv :=
  if (polOk kind many && fitR os fs) = true then (if kind = 1 then (meshR os fs).take 8 else portsR (os.headD Av.zero).addr (fs.headD Av.zero).addr (manyR kind many)) else []
def shortR (ws hs : List Rv) : Bool := decide (ws.length ≤ 64 ∧ hs.length ≤ 64)
def missGo (hs : List Rv) : List Rv → List Rv
  | [] => []
  | r :: rest => if r ∈ hs then missGo hs rest else r :: missGo hs rest
def missR (ws hs : List Rv) : List Rv := if shortR ws hs = true then missGo hs ws else []

theorem row_len (a : Av) (fs : List Av) : (rowR a fs).length = fs.length := by simp [rowR]
theorem row_take (a : Av) (fs : List Av) (j : Nat) (h : j < fs.length) : rowR a (fs.take (j + 1)) = rowR a (fs.take j) ++ [⟨a.addr, fs[j].addr, 0⟩] := by
  unfold rowR
  rw [List.take_succ_eq_append_getElem h, List.map_append]
  rfl
theorem mesh_take (os fs : List Av) (i : Nat) (h : i < os.length) : meshR (os.take (i + 1)) fs = meshR (os.take i) fs ++ rowR os[i] fs := by
  unfold meshR
  rw [List.take_succ_eq_append_getElem h, List.flatMap_append]
  simp
theorem mesh_len (os fs : List Av) : (meshR os fs).length = os.length * fs.length := by
  induction os with
  | nil => simp [meshR]
  | cons a r ih =>
    have e : meshR (a :: r) fs = rowR a fs ++ meshR r fs := by simp [meshR]
    rw [e, List.length_append, ih, row_len, List.length_cons, Nat.add_mul, Nat.one_mul, Nat.add_comm]
theorem ports_len (x y : Int) (n : Nat) : (portsR x y n).length = n := by simp [portsR]
theorem ports_at (x y : Int) (n i : Nat) (h : i < n) : (portsR x y n)[i]'(by rw [ports_len]; exact h) = ⟨x, y, (i : Int)⟩ := by simp [portsR]
theorem ports_succ (x y : Int) (n : Nat) : portsR x y (n + 1) = portsR x y n ++ [⟨x, y, (n : Int)⟩] := by simp [portsR, List.range_succ]
theorem want_len (kind many : Int) (os fs : List Av) : (wantR kind many os fs).length ≤ 8 := by
  unfold wantR
  split
  · next h =>
    split
    · rw [List.length_take]; omega
    · rw [ports_len]
      unfold manyR
      split
      · have h1 := (Bool.and_eq_true_iff.1 h).1
        unfold polOk at h1
        have := of_decide_eq_true h1
        omega
      · omega
  · simp
theorem missGo_append (hs a b : List Rv) : missGo hs (a ++ b) = missGo hs a ++ missGo hs b := by
  induction a with
  | nil => rfl
  | cons x r ih =>
    simp only [List.cons_append, missGo, ih]
    split <;> simp
theorem missGo_take (hs ws : List Rv) (k : Nat) (h : k < ws.length) : missGo hs (ws.take (k + 1)) = missGo hs (ws.take k) ++ (if ws[k] ∈ hs then [] else [ws[k]]) := by
  rw [List.take_succ_eq_append_getElem h, missGo_append]
  congr 1
theorem missGo_len (hs ws : List Rv) : (missGo hs ws).length ≤ ws.length := by
  induction ws with
  | nil => simp [missGo]
  | cons x r ih =>
    unfold missGo
    split <;> simp <;> omega
theorem miss_len (ws hs : List Rv) : (missR ws hs).length ≤ ws.length := by
  unfold missR
  split
  · exact missGo_len hs ws
  · simp
end Go.Proofs.Ytoeflkmhofkiaaa

namespace Go.Proofs.Ytoeflkmhofkiaaa
set_option maxRecDepth 100000

/-! Messages (chapter 16). -/
structure Lv where
  kind : Int
  frm : Int
  to : Int
  port : Int
  key : Int
  token : Int
  nonce : Int
  give : Int
  sign : Int
  tag : Tv
  id : Int
  addr : Int
  spare : Bool
  pos : Int
  text : ByteArray
def Lv.zero : Lv := ⟨0, 0, 0, 0, 0, 0, 0, 0, 0, Tv.zero, 0, 0, false, 0, ⟨#[]⟩⟩
instance : Inhabited Lv := ⟨Lv.zero⟩
def inN (n lo hi : Int) : Bool := decide (lo ≤ n ∧ n ≤ hi)
def numsL (x : Lv) : List Int := [x.frm, x.to, x.port, x.key, x.token, x.nonce, x.give, x.sign, x.id, x.addr, x.pos, x.tag.kind, x.tag.one, x.tag.two, x.tag.a, x.tag.b]
def okL (x : Lv) : Bool := inN x.kind 1 13 && decide (x.text.size ≤ 20) && (numsL x).all fun n => inN n 0 1000000000
def roadL (x : Lv) : Rv := ⟨x.to, x.frm, x.port⟩
def betweenL (r : Rv) (x : Lv) : Lv := { x with frm := r.own, to := r.far, port := r.port }
end Go.Proofs.Ytoeflkmhofkiaaa

namespace Go.Proofs.Ytoeflkmhofkiaaa
open Go.RowKit
set_option maxRecDepth 100000

/-- Structs of 19 numbers as elements of a row. -/
def lvK : EK Lv where
  t := 41
  n := 19
  cs := fun m => [.int .i64 m.kind, .int .i64 m.frm, .int .i64 m.to, .int .i64 m.port, .int .i64 m.key, .int .i64 m.token, .int .i64 m.nonce, .int .i64 m.give, .int .i64 m.sign, .int .i64 m.tag.kind, .int .i64 m.tag.one, .int .i64 m.tag.two, .int .i64 m.tag.a, .int .i64 m.tag.b, .int .i64 m.id, .int .i64 m.addr, .bool m.spare, .int .i64 m.pos, .string m.text]
  len := fun _ => rfl
  pos := by decide
  one := fun p u hu => by
    simp only [List.mem_cons, List.not_mem_nil, or_false] at hu
    rcases hu with rfl | rfl | rfl | rfl | rfl | rfl | rfl | rfl | rfl | rfl | rfl | rfl | rfl | rfl | rfl | rfl | rfl | rfl | rfl <;> rfl
  zero := Lv.zero
  zv := .agg #[.int .i64 0, .int .i64 0, .int .i64 0, .int .i64 0, .int .i64 0, .int .i64 0, .int .i64 0, .int .i64 0, .int .i64 0, .int .i64 0, .int .i64 0, .int .i64 0, .int .i64 0, .int .i64 0, .int .i64 0, .int .i64 0, .bool false, .int .i64 0, .string ⟨#[]⟩]
  zcs := rfl
  bytes := 160
  bnd := by decide
  wid := by decide
  info := by kernel_rfl
abbrev RdL := RdE lvK
abbrev OwnL := OwnE lvK
theorem sizeLv (p : Lv) : (Try.prog.info? 41).map (·.size) = some ((#[.int .i64 p.kind, .int .i64 p.frm, .int .i64 p.to, .int .i64 p.port, .int .i64 p.key, .int .i64 p.token, .int .i64 p.nonce, .int .i64 p.give, .int .i64 p.sign, .int .i64 p.tag.kind, .int .i64 p.tag.one, .int .i64 p.tag.two, .int .i64 p.tag.a, .int .i64 p.tag.b, .int .i64 p.id, .int .i64 p.addr, .bool p.spare, .int .i64 p.pos, .string p.text] : Array Value)).size := by show _ = some 19; kernel_rfl
theorem lv_at {W : World} {P : Program} {a : Option Addr} {n c : Nat} {xs : List Lv} (h : RdL W (.slice a n c) xs) (i : Nat) (hi : i < xs.length) :
    ∃ b off, a = some ⟨b, off, none⟩ ∧ b < W.heap.size ∧ W.cell? ⟨b, off + i * 19, none⟩ = some (.int .i64 xs[i].kind) ∧ W.cell? ⟨b, off + i * 19 + 1, none⟩ = some (.int .i64 xs[i].frm) ∧ W.cell? ⟨b, off + i * 19 + 2, none⟩ = some (.int .i64 xs[i].to) ∧ W.cell? ⟨b, off + i * 19 + 3, none⟩ = some (.int .i64 xs[i].port) ∧ W.cell? ⟨b, off + i * 19 + 4, none⟩ = some (.int .i64 xs[i].key) ∧ W.cell? ⟨b, off + i * 19 + 5, none⟩ = some (.int .i64 xs[i].token) ∧ W.cell? ⟨b, off + i * 19 + 6, none⟩ = some (.int .i64 xs[i].nonce) ∧ W.cell? ⟨b, off + i * 19 + 7, none⟩ = some (.int .i64 xs[i].give) ∧ W.cell? ⟨b, off + i * 19 + 8, none⟩ = some (.int .i64 xs[i].sign) ∧ W.cell? ⟨b, off + i * 19 + 9, none⟩ = some (.int .i64 xs[i].tag.kind) ∧ W.cell? ⟨b, off + i * 19 + 10, none⟩ = some (.int .i64 xs[i].tag.one) ∧ W.cell? ⟨b, off + i * 19 + 11, none⟩ = some (.int .i64 xs[i].tag.two) ∧ W.cell? ⟨b, off + i * 19 + 12, none⟩ = some (.int .i64 xs[i].tag.a) ∧ W.cell? ⟨b, off + i * 19 + 13, none⟩ = some (.int .i64 xs[i].tag.b) ∧ W.cell? ⟨b, off + i * 19 + 14, none⟩ = some (.int .i64 xs[i].id) ∧ W.cell? ⟨b, off + i * 19 + 15, none⟩ = some (.int .i64 xs[i].addr) ∧ W.cell? ⟨b, off + i * 19 + 16, none⟩ = some (.bool xs[i].spare) ∧ W.cell? ⟨b, off + i * 19 + 17, none⟩ = some (.int .i64 xs[i].pos) ∧ W.cell? ⟨b, off + i * 19 + 18, none⟩ = some (.string xs[i].text) ∧
      (loadCells ⟨b, off + i * 19, none⟩ 19).run P W = .ok #[.int .i64 xs[i].kind, .int .i64 xs[i].frm, .int .i64 xs[i].to, .int .i64 xs[i].port, .int .i64 xs[i].key, .int .i64 xs[i].token, .int .i64 xs[i].nonce, .int .i64 xs[i].give, .int .i64 xs[i].sign, .int .i64 xs[i].tag.kind, .int .i64 xs[i].tag.one, .int .i64 xs[i].tag.two, .int .i64 xs[i].tag.a, .int .i64 xs[i].tag.b, .int .i64 xs[i].id, .int .i64 xs[i].addr, .bool xs[i].spare, .int .i64 xs[i].pos, .string xs[i].text] W := by
  obtain ⟨b, off, h1, h2, h3, h4⟩ := RdE.at (P := P) h i hi
  exact ⟨b, off, h1, h2, h3 0 (by decide), h3 1 (by decide), h3 2 (by decide), h3 3 (by decide), h3 4 (by decide), h3 5 (by decide), h3 6 (by decide), h3 7 (by decide), h3 8 (by decide), h3 9 (by decide), h3 10 (by decide), h3 11 (by decide), h3 12 (by decide), h3 13 (by decide), h3 14 (by decide), h3 15 (by decide), h3 16 (by decide), h3 17 (by decide), h3 18 (by decide), h4⟩
theorem lv_own {W : World} {B C : Nat} {g n cap : Nat} {xs : List Lv} (h : OwnL W B C (.slice (some ⟨g, 0, none⟩) n cap) xs) (i : Nat) (hi : i < xs.length) :
    W.cell? ⟨g, i * 19, none⟩ = some (.int .i64 xs[i].kind) ∧ W.cell? ⟨g, i * 19 + 1, none⟩ = some (.int .i64 xs[i].frm) ∧ W.cell? ⟨g, i * 19 + 2, none⟩ = some (.int .i64 xs[i].to) ∧ W.cell? ⟨g, i * 19 + 3, none⟩ = some (.int .i64 xs[i].port) ∧ W.cell? ⟨g, i * 19 + 4, none⟩ = some (.int .i64 xs[i].key) ∧ W.cell? ⟨g, i * 19 + 5, none⟩ = some (.int .i64 xs[i].token) ∧ W.cell? ⟨g, i * 19 + 6, none⟩ = some (.int .i64 xs[i].nonce) ∧ W.cell? ⟨g, i * 19 + 7, none⟩ = some (.int .i64 xs[i].give) ∧ W.cell? ⟨g, i * 19 + 8, none⟩ = some (.int .i64 xs[i].sign) ∧ W.cell? ⟨g, i * 19 + 9, none⟩ = some (.int .i64 xs[i].tag.kind) ∧ W.cell? ⟨g, i * 19 + 10, none⟩ = some (.int .i64 xs[i].tag.one) ∧ W.cell? ⟨g, i * 19 + 11, none⟩ = some (.int .i64 xs[i].tag.two) ∧ W.cell? ⟨g, i * 19 + 12, none⟩ = some (.int .i64 xs[i].tag.a) ∧ W.cell? ⟨g, i * 19 + 13, none⟩ = some (.int .i64 xs[i].tag.b) ∧ W.cell? ⟨g, i * 19 + 14, none⟩ = some (.int .i64 xs[i].id) ∧ W.cell? ⟨g, i * 19 + 15, none⟩ = some (.int .i64 xs[i].addr) ∧ W.cell? ⟨g, i * 19 + 16, none⟩ = some (.bool xs[i].spare) ∧ W.cell? ⟨g, i * 19 + 17, none⟩ = some (.int .i64 xs[i].pos) ∧ W.cell? ⟨g, i * 19 + 18, none⟩ = some (.string xs[i].text) ∧ (∀ j, W.frozen? ⟨g, j, none⟩ = false) ∧ g < W.heap.size ∧ W.there g (i * 19) 19 := by
  obtain ⟨h1, h2, h3, h4⟩ := OwnE.at h i hi
  exact ⟨h1 0 (by decide), h1 1 (by decide), h1 2 (by decide), h1 3 (by decide), h1 4 (by decide), h1 5 (by decide), h1 6 (by decide), h1 7 (by decide), h1 8 (by decide), h1 9 (by decide), h1 10 (by decide), h1 11 (by decide), h1 12 (by decide), h1 13 (by decide), h1 14 (by decide), h1 15 (by decide), h1 16 (by decide), h1 17 (by decide), h1 18 (by decide), h2, h3, h4⟩
theorem lv_putC {W : World} {B C : Nat} {g n cap : Nat} {xs : List Lv} (h : OwnL W B C (.slice (some ⟨g, 0, none⟩) n cap) xs) (i : Nat) (hi : i < xs.length) (x : Lv) :
    OwnL (W.setCells g (i * 19) [.int .i64 x.kind, .int .i64 x.frm, .int .i64 x.to, .int .i64 x.port, .int .i64 x.key, .int .i64 x.token, .int .i64 x.nonce, .int .i64 x.give, .int .i64 x.sign, .int .i64 x.tag.kind, .int .i64 x.tag.one, .int .i64 x.tag.two, .int .i64 x.tag.a, .int .i64 x.tag.b, .int .i64 x.id, .int .i64 x.addr, .bool x.spare, .int .i64 x.pos, .string x.text]) B C (.slice (some ⟨g, 0, none⟩) n cap) (xs.set i x) := OwnE.put h i hi x
theorem cel19lv {W : World} {g : Nat} {t : TypeId} {x0 x1 x2 x3 x4 x5 x6 x7 x8 x9 x10 x11 x12 x13 x14 x15 x16 x17 x18 : Value} (h : Cel W g t #[x0, x1, x2, x3, x4, x5, x6, x7, x8, x9, x10, x11, x12, x13, x14, x15, x16, x17, x18]) : W.cell? ⟨g, 0, none⟩ = some x0 ∧ W.cell? ⟨g, 1, none⟩ = some x1 ∧ W.cell? ⟨g, 2, none⟩ = some x2 ∧ W.cell? ⟨g, 3, none⟩ = some x3 ∧ W.cell? ⟨g, 4, none⟩ = some x4 ∧ W.cell? ⟨g, 5, none⟩ = some x5 ∧ W.cell? ⟨g, 6, none⟩ = some x6 ∧ W.cell? ⟨g, 7, none⟩ = some x7 ∧ W.cell? ⟨g, 8, none⟩ = some x8 ∧ W.cell? ⟨g, 9, none⟩ = some x9 ∧ W.cell? ⟨g, 10, none⟩ = some x10 ∧ W.cell? ⟨g, 11, none⟩ = some x11 ∧ W.cell? ⟨g, 12, none⟩ = some x12 ∧ W.cell? ⟨g, 13, none⟩ = some x13 ∧ W.cell? ⟨g, 14, none⟩ = some x14 ∧ W.cell? ⟨g, 15, none⟩ = some x15 ∧ W.cell? ⟨g, 16, none⟩ = some x16 ∧ W.cell? ⟨g, 17, none⟩ = some x17 ∧ W.cell? ⟨g, 18, none⟩ = some x18 := ⟨h.cell 0, h.cell 1, h.cell 2, h.cell 3, h.cell 4, h.cell 5, h.cell 6, h.cell 7, h.cell 8, h.cell 9, h.cell 10, h.cell 11, h.cell 12, h.cell 13, h.cell 14, h.cell 15, h.cell 16, h.cell 17, h.cell 18⟩
theorem below_lv (w : World) (p : Lv) : Below w.heap.size w (w.alloc (.cells #[.int .i64 p.kind, .int .i64 p.frm, .int .i64 p.to, .int .i64 p.port, .int .i64 p.key, .int .i64 p.token, .int .i64 p.nonce, .int .i64 p.give, .int .i64 p.sign, .int .i64 p.tag.kind, .int .i64 p.tag.one, .int .i64 p.tag.two, .int .i64 p.tag.a, .int .i64 p.tag.b, .int .i64 p.id, .int .i64 p.addr, .bool p.spare, .int .i64 p.pos, .string p.text] 41)) := below_new _ _
theorem rd_lvbox {W : World} {b : Nat} {m : Lv} (h : Cel W b 41 #[.int .i64 m.kind, .int .i64 m.frm, .int .i64 m.to, .int .i64 m.port, .int .i64 m.key, .int .i64 m.token, .int .i64 m.nonce, .int .i64 m.give, .int .i64 m.sign, .int .i64 m.tag.kind, .int .i64 m.tag.one, .int .i64 m.tag.two, .int .i64 m.tag.a, .int .i64 m.tag.b, .int .i64 m.id, .int .i64 m.addr, .bool m.spare, .int .i64 m.pos, .string m.text]) : RdL W (.slice (some ⟨b, 0, none⟩) 1 1) [m] :=
  (OwnE.of_cel (K := lvK) (B := 0) (C := b + 1) (xs := [m]) h (Nat.zero_le _) (Nat.lt_succ_self _) (by simp [maxLen])).rd
end Go.Proofs.Ytoeflkmhofkiaaa

namespace Go.Proofs.Ytoeflkmhofkiaaa
open Go.RowKit
set_option maxRecDepth 100000

def Av.cells (p : Av) : List Value := [.int .i64 p.id, .int .i64 p.addr, .bool p.spare, .bool p.told]
/-- Integers. -/
def intK : EK Int where
  t := 3
  n := 1
  cs := fun k => [.int .i64 k]
  len := fun _ => rfl
  pos := by decide
  one := fun p u hu => by
    simp only [List.mem_cons, List.not_mem_nil, or_false] at hu
    rcases hu with rfl <;> rfl
  zero := 0
  zv := .int .i64 0
  zcs := rfl
  bytes := 8
  bnd := by decide
  wid := by decide
  info := by kernel_rfl

theorem uIs : Try.prog.underlying 84 = some (.slice 3) := Try.underlying84
theorem cel4a {W : World} {g : Nat} {t : TypeId} {x y z u : Value} (h : Cel W g t #[x, y, z, u]) : W.cell? ⟨g, 0, none⟩ = some x ∧ W.cell? ⟨g, 1, none⟩ = some y ∧ W.cell? ⟨g, 2, none⟩ = some z ∧ W.cell? ⟨g, 3, none⟩ = some u := ⟨h.cell 0, h.cell 1, h.cell 2, h.cell 3⟩
theorem cel2a {W : World} {g : Nat} {t : TypeId} {x y : Value} (h : Cel W g t #[x, y]) : W.cell? ⟨g, 0, none⟩ = some x ∧ W.cell? ⟨g, 1, none⟩ = some y := ⟨h.cell 0, h.cell 1⟩
/-- Whole addresses, at every place of a row, whatever the index. -/
theorem keepc' {W W' : World} {B o : Nat} {u : Value} (h : W.cell? ⟨B, o, none⟩ = some u) (hb : Below W.heap.size W W') : W'.cell? ⟨B, o, none⟩ = some u := by
  rw [hb.cell (p := ⟨B, o, none⟩) (World.block_lt_of_cell? _ _ h)]
  exact h
end Go.Proofs.Ytoeflkmhofkiaaa

namespace Go.Proofs.Ytoeflkmhofkiaaa
open Go.RowKit
set_option maxRecDepth 100000

/-- Paths as elements of a row. -/
def rvK : EK Rv where
  t := 26
  n := 3
  cs := fun r => [.int .i64 r.own, .int .i64 r.far, .int .i64 r.port]
  len := fun _ => rfl
  pos := by decide
  one := fun p u hu => by
    simp only [List.mem_cons, List.not_mem_nil, or_false] at hu
    rcases hu with rfl | rfl | rfl <;> rfl
  zero := Rv.zero
  zv := .agg #[.int .i64 0, .int .i64 0, .int .i64 0]
  zcs := rfl
  bytes := 24
  bnd := by decide
  wid := by decide
  info := by kernel_rfl
abbrev RdR := RdE rvK
abbrev OwnR := OwnE rvK
theorem sizeRv (p : Rv) : (Try.prog.info? 26).map (·.size) = some (#[Value.int .i64 p.own, .int .i64 p.far, .int .i64 p.port]).size := by show _ = some 3; kernel_rfl
/-- The cells of the i-th path, and the whole of it. -/
theorem rv_at {W : World} {P : Program} {a : Option Addr} {n c : Nat} {xs : List Rv} (h : RdR W (.slice a n c) xs) (i : Nat) (hi : i < xs.length) :
    ∃ b off, a = some ⟨b, off, none⟩ ∧ b < W.heap.size ∧ W.cell? ⟨b, off + i * 3, none⟩ = some (.int .i64 xs[i].own) ∧ W.cell? ⟨b, off + i * 3 + 1, none⟩ = some (.int .i64 xs[i].far) ∧ W.cell? ⟨b, off + i * 3 + 2, none⟩ = some (.int .i64 xs[i].port) ∧
      (loadCells ⟨b, off + i * 3, none⟩ 3).run P W = .ok #[.int .i64 xs[i].own, .int .i64 xs[i].far, .int .i64 xs[i].port] W := by
  obtain ⟨b, off, h1, h2, h3, h4⟩ := RdE.at (P := P) h i hi
  exact ⟨b, off, h1, h2, h3 0 (by decide), h3 1 (by decide), h3 2 (by decide), h4⟩
theorem rv_own {W : World} {B C : Nat} {g n cap : Nat} {xs : List Rv} (h : OwnR W B C (.slice (some ⟨g, 0, none⟩) n cap) xs) (i : Nat) (hi : i < xs.length) :
    W.cell? ⟨g, i * 3, none⟩ = some (.int .i64 xs[i].own) ∧ W.cell? ⟨g, i * 3 + 1, none⟩ = some (.int .i64 xs[i].far) ∧ W.cell? ⟨g, i * 3 + 2, none⟩ = some (.int .i64 xs[i].port) ∧ (∀ j, W.frozen? ⟨g, j, none⟩ = false) ∧ g < W.heap.size ∧ W.there g (i * 3) 3 := by
  obtain ⟨h1, h2, h3, h4⟩ := OwnE.at h i hi
  exact ⟨h1 0 (by decide), h1 1 (by decide), h1 2 (by decide), h2, h3, h4⟩
theorem rv_putC {W : World} {B C : Nat} {g n cap : Nat} {xs : List Rv} (h : OwnR W B C (.slice (some ⟨g, 0, none⟩) n cap) xs) (i : Nat) (hi : i < xs.length) (x : Rv) :
    OwnR (W.setCells g (i * 3) [.int .i64 x.own, .int .i64 x.far, .int .i64 x.port]) B C (.slice (some ⟨g, 0, none⟩) n cap) (xs.set i x) := OwnE.put h i hi x
theorem cel3r {W : World} {g : Nat} {t : TypeId} {x y z : Value} (h : Cel W g t #[x, y, z]) : W.cell? ⟨g, 0, none⟩ = some x ∧ W.cell? ⟨g, 1, none⟩ = some y ∧ W.cell? ⟨g, 2, none⟩ = some z := ⟨h.cell 0, h.cell 1, h.cell 2⟩
theorem below_rv (w : World) (p : Rv) : Below w.heap.size w (w.alloc (.cells #[.int .i64 p.own, .int .i64 p.far, .int .i64 p.port] 26)) := below_new _ _
theorem rd_rbox {W : World} {b : Nat} {m : Rv} (h : Cel W b 26 #[.int .i64 m.own, .int .i64 m.far, .int .i64 m.port]) : RdR W (.slice (some ⟨b, 0, none⟩) 1 1) [m] :=
  (OwnE.of_cel (K := rvK) (B := 0) (C := b + 1) (xs := [m]) h (Nat.zero_le _) (Nat.lt_succ_self _) (by simp [maxLen])).rd
theorem cel_row {W : World} {b : Nat} {m : Rv} : Cel W b 26 #[.int .i64 m.own, .int .i64 m.far, .int .i64 m.port] = Cel W b rvK.t (rvK.flat [m]).toArray := rfl

/-- The first few of a row of one's own. -/
theorem OwnE.firsts {α : Type} {K : EK α} {W : World} {B C g n cap : Nat} {xs : List α} (h : OwnE K W B C (.slice (some ⟨g, 0, none⟩) n cap) xs) (m : Nat) (hm : m ≤ xs.length) :
    OwnE K W B C (.slice (some ⟨g, 0, none⟩) m cap) (xs.take m) := by
  obtain ⟨⟨h1, h2⟩, h3⟩ := h
  have hl : (xs.take m).length = m := by rw [List.length_take]; omega
  rcases h2 with ⟨h2, _⟩ | ⟨g', cap', cur, hv, hg, hh, r1, r2, r3, r4⟩
  · cases h2
  · injection hv with e1 e2 e3
    injection e1 with e1
    injection e1 with e1
    subst e1 e2 e3
    have hmul : m * K.n ≤ xs.length * K.n := Nat.mul_le_mul_right _ hm
    refine ⟨⟨by rw [eflat_length], .inr ⟨g, cap, cur, by rw [hl], hg, hh, by rw [hl]; omega, r2, r3, ?_⟩⟩, h3⟩
    rw [hl, ← eflat_take, ← r4, List.take_take, Nat.min_eq_left hmul]
end Go.Proofs.Ytoeflkmhofkiaaa

namespace Go.Proofs.Ytoeflkmhofkiaaa
open Go.RowKit
set_option maxRecDepth 100000

set_option maxRecDepth 100000 in
theorem to_road (m : Rv) (w : World) :
    Calls Try.prog 40 #[.agg #[.int .i64 m.own, .int .i64 m.far, .int .i64 m.port]] w fun e w' => e = .returned (.agg #[.int .i64 m.own, .int .i64 m.far, .int .i64 m.port]) ∧ Below w.heap.size w w' := by
  have hb : Below w.heap.size w (((w.alloc (.cells #[.int .i64 m.own, .int .i64 m.far, .int .i64 m.port] 53)).alloc (.cells #[.int .i64 m.own, .int .i64 m.far, .int .i64 m.port] 26)).alloc (.cells #[.int .i64 m.own, .int .i64 m.far, .int .i64 m.port] 26)) := (((Below.refl _ _).alloc (Nat.le_refl _) _).alloc (by simp) _).alloc (by simp; omega) _
  have HB := Lib.hid hb
  clear hb
  go_enter Try.func40, Try.ntmps40
  go_wp2_with (fail)
  exact bodyPost_ret (v := .agg #[.int .i64 m.own, .int .i64 m.far, .int .i64 m.port]) (by simp [results, Try.results40, go_sem]) rfl ⟨rfl, HB.out⟩

attribute [-go_sem] loadCells loadCellsFrom

theorem rbox2 (w : World) (m o : Rv) : (fun W : World => Cel W w.heap.size 26 #[.int .i64 m.own, .int .i64 m.far, .int .i64 m.port] ∧ Cel W (w.heap.size + 1) 26 #[.int .i64 o.own, .int .i64 o.far, .int .i64 o.port] ∧ Below w.heap.size w W)
    ((w.alloc (.cells #[.int .i64 m.own, .int .i64 m.far, .int .i64 m.port] 26)).alloc (.cells #[.int .i64 o.own, .int .i64 o.far, .int .i64 o.port] 26)) := by
  refine ⟨(Cel.new w _ _).alloc _, ?_, ((Below.refl _ _).alloc (Nat.le_refl _) _).alloc (by simp) _⟩
  have := Cel.new (w.alloc (.cells #[.int .i64 m.own, .int .i64 m.far, .int .i64 m.port] 26)) 26 #[.int .i64 o.own, .int .i64 o.far, .int .i64 o.port]
  rw [World.size_alloc] at this
  exact this

set_option maxRecDepth 100000 in
theorem eq_road (m : Rv) (w : World) :
    Calls Try.prog 37 #[.agg #[.int .i64 m.own, .int .i64 m.far, .int .i64 m.port], .agg #[.int .i64 m.own, .int .i64 m.far, .int .i64 m.port]] w fun e w' => e = .returned (.bool true) ∧ Below w.heap.size w w' := by
  have HB := Lib.hid (rbox2 w m m).2.2
  go_enter Try.func37, Try.ntmps37
  go_wp2_with (fail)
  go_ret
  exact ⟨rfl, HB.out⟩

end Go.Proofs.Ytoeflkmhofkiaaa

namespace Go.Proofs.Ytoeflkmhofkiaaa
open Go.RowKit
set_option maxRecDepth 100000

set_option maxRecDepth 100000 in
set_option maxHeartbeats 2000000 in
theorem to_tag_x (m : Tv) (w : World) :
    Calls Try.prog 60 #[.agg #[.int .i64 m.kind, .int .i64 m.one, .int .i64 m.two, .int .i64 m.a, .int .i64 m.b]] w fun e w' => e = .returned (.agg #[.int .i64 m.kind, .int .i64 m.one, .int .i64 m.two, .int .i64 m.a, .int .i64 m.b]) ∧ w' = (((w.alloc (.cells #[.int .i64 m.kind, .int .i64 m.one, .int .i64 m.two, .int .i64 m.a, .int .i64 m.b] 59)).alloc (.cells #[.int .i64 m.kind, .int .i64 m.one, .int .i64 m.two, .int .i64 m.a, .int .i64 m.b] 39)).alloc (.cells #[.int .i64 m.kind, .int .i64 m.one, .int .i64 m.two, .int .i64 m.a, .int .i64 m.b] 39)) := by
  obtain ⟨wf, hwf⟩ : ∃ wf, wf = (((w.alloc (.cells #[.int .i64 m.kind, .int .i64 m.one, .int .i64 m.two, .int .i64 m.a, .int .i64 m.b] 59)).alloc (.cells #[.int .i64 m.kind, .int .i64 m.one, .int .i64 m.two, .int .i64 m.a, .int .i64 m.b] 39)).alloc (.cells #[.int .i64 m.kind, .int .i64 m.one, .int .i64 m.two, .int .i64 m.a, .int .i64 m.b] 39)) := ⟨_, rfl⟩
  rw [← hwf]
  have HW := Lib.hid hwf
  clear hwf
  go_enter Try.func60, Try.ntmps60
  go_wp2_with (fail)
  exact bodyPost_ret (v := .agg #[.int .i64 m.kind, .int .i64 m.one, .int .i64 m.two, .int .i64 m.a, .int .i64 m.b]) (by simp [results, Try.results60, go_sem]) rfl ⟨rfl, HW.out.symm⟩
theorem to_tag_below (m : Tv) (w : World) : Below w.heap.size w (((w.alloc (.cells #[.int .i64 m.kind, .int .i64 m.one, .int .i64 m.two, .int .i64 m.a, .int .i64 m.b] 59)).alloc (.cells #[.int .i64 m.kind, .int .i64 m.one, .int .i64 m.two, .int .i64 m.a, .int .i64 m.b] 39)).alloc (.cells #[.int .i64 m.kind, .int .i64 m.one, .int .i64 m.two, .int .i64 m.a, .int .i64 m.b] 39)) := ((((Below.refl _ _).alloc (Nat.le_refl _) _).alloc (by simp) _).alloc (by simp; omega) _)
theorem to_tag (m : Tv) (w : World) :
    Calls Try.prog 60 #[.agg #[.int .i64 m.kind, .int .i64 m.one, .int .i64 m.two, .int .i64 m.a, .int .i64 m.b]] w fun e w' => e = .returned (.agg #[.int .i64 m.kind, .int .i64 m.one, .int .i64 m.two, .int .i64 m.a, .int .i64 m.b]) ∧ Below w.heap.size w w' :=
  (to_tag_x m w).mono fun _ _ h => ⟨h.1, by rw [h.2]; exact to_tag_below m w⟩

set_option maxRecDepth 100000 in
set_option maxHeartbeats 2000000 in
theorem eq_tag_x (m : Tv) (w : World) :
    Calls Try.prog 61 #[.agg #[.int .i64 m.kind, .int .i64 m.one, .int .i64 m.two, .int .i64 m.a, .int .i64 m.b], .agg #[.int .i64 m.kind, .int .i64 m.one, .int .i64 m.two, .int .i64 m.a, .int .i64 m.b]] w fun e w' => e = .returned (.bool true) ∧ w' = ((w.alloc (.cells #[.int .i64 m.kind, .int .i64 m.one, .int .i64 m.two, .int .i64 m.a, .int .i64 m.b] 39)).alloc (.cells #[.int .i64 m.kind, .int .i64 m.one, .int .i64 m.two, .int .i64 m.a, .int .i64 m.b] 39)) := by
  obtain ⟨wf, hwf⟩ : ∃ wf, wf = ((w.alloc (.cells #[.int .i64 m.kind, .int .i64 m.one, .int .i64 m.two, .int .i64 m.a, .int .i64 m.b] 39)).alloc (.cells #[.int .i64 m.kind, .int .i64 m.one, .int .i64 m.two, .int .i64 m.a, .int .i64 m.b] 39)) := ⟨_, rfl⟩
  rw [← hwf]
  have HW := Lib.hid hwf
  clear hwf
  go_enter Try.func61, Try.ntmps61
  go_wp2_with (fail)
  go_ret
  exact ⟨rfl, HW.out.symm⟩
theorem eq_tag (m : Tv) (w : World) :
    Calls Try.prog 61 #[.agg #[.int .i64 m.kind, .int .i64 m.one, .int .i64 m.two, .int .i64 m.a, .int .i64 m.b], .agg #[.int .i64 m.kind, .int .i64 m.one, .int .i64 m.two, .int .i64 m.a, .int .i64 m.b]] w fun e w' => e = .returned (.bool true) ∧ Below w.heap.size w w' :=
  (eq_tag_x m w).mono fun _ _ h => ⟨h.1, by rw [h.2]; exact (((Below.refl _ _).alloc (Nat.le_refl _) _).alloc (by simp) _)⟩

attribute [-go_sem] loadCells loadCellsFrom

end Go.Proofs.Ytoeflkmhofkiaaa

namespace Go.Proofs.Ytoeflkmhofkiaaa
set_option maxRecDepth 100000

/-! Pending joins (chapter 14), on lists. -/
/-- A pending join. -/
structure Hv where
  road : Rv
  theirs : Int
  mine : Int
  give : Int
  take : Int
  till : Int
def Hv.zero : Hv := ⟨Rv.zero, 0, 0, 0, 0, 0⟩
instance : Inhabited Hv := ⟨Hv.zero⟩

/-- The first place with this path. -/
def plH (r : Rv) (hs : List Hv) : Nat := hs.findIdx fun h => decide (h.road = r)
def atH (hs : List Hv) (r : Rv) : Int := if plH r hs < hs.length then (plH r hs : Int) else -1
def numH (n : Int) : Bool := decide (0 ≤ n ∧ n ≤ 1000000000)
def roadH (r : Rv) : Bool := numH r.own && numH r.far && numH r.port
def numsH (h : Hv) : Bool := roadH h.road && numH h.theirs && numH h.mine && numH h.give && numH h.take && numH h.till
/-- All but the first k are good at their places. -/
def okFrom (hs : List Hv) (k : Nat) : Bool := (List.range' k (hs.length - k)).all fun i => numsH (hs.getD i Hv.zero) && decide (atH hs (hs.getD i Hv.zero).road = (i : Int))
def okH (hs : List Hv) : Bool := decide (hs.length ≤ 4) && okFrom hs 0
def putGo (hs : List Hv) (h : Hv) : List Hv := if plH h.road hs < hs.length then hs.set (plH h.road hs) h else hs ++ [h]
def putH (hs : List Hv) (h : Hv) : List Hv × Bool := if okH (putGo hs h) = true then (putGo hs h, true) else (hs, false)
def dropH (hs : List Hv) (r : Rv) : List Hv := hs.take (plH r hs) ++ hs.drop (plH r hs + 1)
def youngH (hs : List Hv) (now : Int) : List Hv := hs.filter fun h => decide (now < h.till)

theorem atH_in {hs : List Hv} {r : Rv} (h : plH r hs < hs.length) : atH hs r = (plH r hs : Int) := if_pos h
theorem atH_out {hs : List Hv} {r : Rv} (h : ¬ plH r hs < hs.length) : atH hs r = -1 := if_neg h
theorem plH_le (r : Rv) (hs : List Hv) : plH r hs ≤ hs.length := List.findIdx_le_length
theorem plH_at {r : Rv} {hs : List Hv} {k : Nat} (hk : k < hs.length) (h1 : ∀ j (_ : j < k) (h : j < hs.length), ¬ hs[j].road = r) (h2 : hs[k].road = r) : plH r hs = k := by
  unfold plH
  refine (List.findIdx_eq hk).2 ⟨by simpa using h2, fun j hj => ?_⟩
  have := h1 j hj (by omega)
  simpa using this
theorem plH_none {r : Rv} {hs : List Hv} (h1 : ∀ j (h : j < hs.length), ¬ hs[j].road = r) : plH r hs = hs.length := by
  unfold plH
  refine List.findIdx_eq_length.2 fun x hx => ?_
  obtain ⟨i, hi, rfl⟩ := List.mem_iff_getElem.1 hx
  simpa using h1 i hi
theorem plH_hit {r : Rv} {hs : List Hv} (h : plH r hs < hs.length) : hs[plH r hs].road = r := by
  have := List.findIdx_getElem (w := h)
  exact of_decide_eq_true this
theorem okFrom_end {hs : List Hv} {k : Nat} (h : hs.length ≤ k) : okFrom hs k = true := by
  unfold okFrom
  rw [show hs.length - k = 0 by omega]
  rfl
theorem okFrom_step {hs : List Hv} {k : Nat} (h : k < hs.length) : okFrom hs k = (numsH hs[k] && decide (atH hs hs[k].road = (k : Int)) && okFrom hs (k + 1)) := by
  unfold okFrom
  rw [show hs.length - k = (hs.length - (k + 1)) + 1 by omega, List.range'_succ, List.all_cons]
  have e : hs.getD k Hv.zero = hs[k] := by simp [List.getD, List.getElem?_eq_getElem h]
  rw [e]
theorem putGo_len (hs : List Hv) (h : Hv) : (putGo hs h).length ≤ hs.length + 1 := by
  unfold putGo
  split <;> simp
theorem put_len (hs : List Hv) (h : Hv) : (putH hs h).1.length ≤ hs.length + 1 := by
  unfold putH
  split
  · exact putGo_len hs h
  · exact Nat.le_succ _
theorem drop_lenH (hs : List Hv) (r : Rv) : (dropH hs r).length ≤ hs.length := by
  unfold dropH
  rw [List.length_append, List.length_take, List.length_drop]
  omega
theorem young_len (hs : List Hv) (now : Int) : (youngH hs now).length ≤ hs.length := List.length_filter_le _ _
theorem young_snoc (hs : List Hv) (now : Int) (h : Hv) : youngH (hs ++ [h]) now = youngH hs now ++ (if now < h.till then [h] else []) := by
  unfold youngH
  rw [List.filter_append]
  congr 1
  by_cases hh : now < h.till <;> simp [hh]
end Go.Proofs.Ytoeflkmhofkiaaa

namespace Go.Proofs.Ytoeflkmhofkiaaa
open Go.RowKit
set_option maxRecDepth 100000

/-- Structs of 8 numbers as elements of a row. -/
def hvK : EK Hv where
  t := 28
  n := 8
  cs := fun m => [.int .i64 m.road.own, .int .i64 m.road.far, .int .i64 m.road.port, .int .i64 m.theirs, .int .i64 m.mine, .int .i64 m.give, .int .i64 m.take, .int .i64 m.till]
  len := fun _ => rfl
  pos := by decide
  one := fun p u hu => by
    simp only [List.mem_cons, List.not_mem_nil, or_false] at hu
    rcases hu with rfl | rfl | rfl | rfl | rfl | rfl | rfl | rfl <;> rfl
  zero := Hv.zero
  zv := .agg #[.int .i64 0, .int .i64 0, .int .i64 0, .int .i64 0, .int .i64 0, .int .i64 0, .int .i64 0, .int .i64 0]
  zcs := rfl
  bytes := 64
  bnd := by decide
  wid := by decide
  info := by kernel_rfl
abbrev RdH := RdE hvK
abbrev OwnH := OwnE hvK
theorem uHv : Try.prog.underlying 24 = some (.slice 28) := Try.underlying24
theorem sizeHv (p : Hv) : (Try.prog.info? 28).map (·.size) = some ((#[.int .i64 p.road.own, .int .i64 p.road.far, .int .i64 p.road.port, .int .i64 p.theirs, .int .i64 p.mine, .int .i64 p.give, .int .i64 p.take, .int .i64 p.till] : Array Value)).size := by show _ = some 8; kernel_rfl
theorem hv_at {W : World} {P : Program} {a : Option Addr} {n c : Nat} {xs : List Hv} (h : RdH W (.slice a n c) xs) (i : Nat) (hi : i < xs.length) :
    ∃ b off, a = some ⟨b, off, none⟩ ∧ b < W.heap.size ∧ W.cell? ⟨b, off + i * 8, none⟩ = some (.int .i64 xs[i].road.own) ∧ W.cell? ⟨b, off + i * 8 + 1, none⟩ = some (.int .i64 xs[i].road.far) ∧ W.cell? ⟨b, off + i * 8 + 2, none⟩ = some (.int .i64 xs[i].road.port) ∧ W.cell? ⟨b, off + i * 8 + 3, none⟩ = some (.int .i64 xs[i].theirs) ∧ W.cell? ⟨b, off + i * 8 + 4, none⟩ = some (.int .i64 xs[i].mine) ∧ W.cell? ⟨b, off + i * 8 + 5, none⟩ = some (.int .i64 xs[i].give) ∧ W.cell? ⟨b, off + i * 8 + 6, none⟩ = some (.int .i64 xs[i].take) ∧ W.cell? ⟨b, off + i * 8 + 7, none⟩ = some (.int .i64 xs[i].till) ∧
      (loadCells ⟨b, off + i * 8, none⟩ 8).run P W = .ok #[.int .i64 xs[i].road.own, .int .i64 xs[i].road.far, .int .i64 xs[i].road.port, .int .i64 xs[i].theirs, .int .i64 xs[i].mine, .int .i64 xs[i].give, .int .i64 xs[i].take, .int .i64 xs[i].till] W := by
  obtain ⟨b, off, h1, h2, h3, h4⟩ := RdE.at (P := P) h i hi
  exact ⟨b, off, h1, h2, h3 0 (by decide), h3 1 (by decide), h3 2 (by decide), h3 3 (by decide), h3 4 (by decide), h3 5 (by decide), h3 6 (by decide), h3 7 (by decide), h4⟩
theorem hv_own {W : World} {B C : Nat} {g n cap : Nat} {xs : List Hv} (h : OwnH W B C (.slice (some ⟨g, 0, none⟩) n cap) xs) (i : Nat) (hi : i < xs.length) :
    W.cell? ⟨g, i * 8, none⟩ = some (.int .i64 xs[i].road.own) ∧ W.cell? ⟨g, i * 8 + 1, none⟩ = some (.int .i64 xs[i].road.far) ∧ W.cell? ⟨g, i * 8 + 2, none⟩ = some (.int .i64 xs[i].road.port) ∧ W.cell? ⟨g, i * 8 + 3, none⟩ = some (.int .i64 xs[i].theirs) ∧ W.cell? ⟨g, i * 8 + 4, none⟩ = some (.int .i64 xs[i].mine) ∧ W.cell? ⟨g, i * 8 + 5, none⟩ = some (.int .i64 xs[i].give) ∧ W.cell? ⟨g, i * 8 + 6, none⟩ = some (.int .i64 xs[i].take) ∧ W.cell? ⟨g, i * 8 + 7, none⟩ = some (.int .i64 xs[i].till) ∧ (∀ j, W.frozen? ⟨g, j, none⟩ = false) ∧ g < W.heap.size ∧ W.there g (i * 8) 8 := by
  obtain ⟨h1, h2, h3, h4⟩ := OwnE.at h i hi
  exact ⟨h1 0 (by decide), h1 1 (by decide), h1 2 (by decide), h1 3 (by decide), h1 4 (by decide), h1 5 (by decide), h1 6 (by decide), h1 7 (by decide), h2, h3, h4⟩
theorem hv_putC {W : World} {B C : Nat} {g n cap : Nat} {xs : List Hv} (h : OwnH W B C (.slice (some ⟨g, 0, none⟩) n cap) xs) (i : Nat) (hi : i < xs.length) (x : Hv) :
    OwnH (W.setCells g (i * 8) [.int .i64 x.road.own, .int .i64 x.road.far, .int .i64 x.road.port, .int .i64 x.theirs, .int .i64 x.mine, .int .i64 x.give, .int .i64 x.take, .int .i64 x.till]) B C (.slice (some ⟨g, 0, none⟩) n cap) (xs.set i x) := OwnE.put h i hi x
theorem cel8hv {W : World} {g : Nat} {t : TypeId} {x0 x1 x2 x3 x4 x5 x6 x7 : Value} (h : Cel W g t #[x0, x1, x2, x3, x4, x5, x6, x7]) : W.cell? ⟨g, 0, none⟩ = some x0 ∧ W.cell? ⟨g, 1, none⟩ = some x1 ∧ W.cell? ⟨g, 2, none⟩ = some x2 ∧ W.cell? ⟨g, 3, none⟩ = some x3 ∧ W.cell? ⟨g, 4, none⟩ = some x4 ∧ W.cell? ⟨g, 5, none⟩ = some x5 ∧ W.cell? ⟨g, 6, none⟩ = some x6 ∧ W.cell? ⟨g, 7, none⟩ = some x7 := ⟨h.cell 0, h.cell 1, h.cell 2, h.cell 3, h.cell 4, h.cell 5, h.cell 6, h.cell 7⟩
theorem below_hv (w : World) (p : Hv) : Below w.heap.size w (w.alloc (.cells #[.int .i64 p.road.own, .int .i64 p.road.far, .int .i64 p.road.port, .int .i64 p.theirs, .int .i64 p.mine, .int .i64 p.give, .int .i64 p.take, .int .i64 p.till] 28)) := below_new _ _
theorem rd_hvbox {W : World} {b : Nat} {m : Hv} (h : Cel W b 28 #[.int .i64 m.road.own, .int .i64 m.road.far, .int .i64 m.road.port, .int .i64 m.theirs, .int .i64 m.mine, .int .i64 m.give, .int .i64 m.take, .int .i64 m.till]) : RdH W (.slice (some ⟨b, 0, none⟩) 1 1) [m] :=
  (OwnE.of_cel (K := hvK) (B := 0) (C := b + 1) (xs := [m]) h (Nat.zero_le _) (Nat.lt_succ_self _) (by simp [maxLen])).rd
end Go.Proofs.Ytoeflkmhofkiaaa

namespace Go.Proofs.Ytoeflkmhofkiaaa
open Go.RowKit
set_option maxRecDepth 100000

set_option maxRecDepth 100000 in
theorem eql_rv (o p : Rv) (W : World) (b : Bool) (hb : b = true ↔ o = p) :
    (binOp .eql 26 (.agg #[.int .i64 o.own, .int .i64 o.far, .int .i64 o.port]) (.agg #[.int .i64 p.own, .int .i64 p.far, .int .i64 p.port])).run Try.prog W = .ok (.bool b) W := by
  have u3 := Try.underlying3
  have a3 := Try.isAgg3
  have z3 := Try.sizeOf3
  have hS : Try.prog.underlying 26 = some (.struct (Try.prog.fieldsOf 26)) := by kernel_rfl
  have hp : Try.prog.stoodInHeld 26 = false := by kernel_rfl
  rw [run_eql_struct, show (10000 : Nat) = 9999 + 1 from rfl, run_equalIn_agg W 9999 26 _ _ hS hp]
  simp only [Program.fieldsOf, Try.underlying26]
  obtain ⟨t1, b1, s1⟩ := o
  obtain ⟨t2, b2, s2⟩ := p
  simp only [Rv.mk.injEq] at hb
  go_simp
  by_cases h1 : t1 = t2 <;> by_cases h2 : b1 = b2 <;> by_cases h3 : s1 = s2 <;> simp_all
set_option maxRecDepth 100000 in
theorem neq_rv (o p : Rv) (W : World) (b : Bool) (hb : b = true ↔ ¬ o = p) :
    (binOp .neq 26 (.agg #[.int .i64 o.own, .int .i64 o.far, .int .i64 o.port]) (.agg #[.int .i64 p.own, .int .i64 p.far, .int .i64 p.port])).run Try.prog W = .ok (.bool b) W := by
  have u3 := Try.underlying3
  have a3 := Try.isAgg3
  have z3 := Try.sizeOf3
  have hS : Try.prog.underlying 26 = some (.struct (Try.prog.fieldsOf 26)) := by kernel_rfl
  have hp : Try.prog.stoodInHeld 26 = false := by kernel_rfl
  rw [run_neq_struct, show (10000 : Nat) = 9999 + 1 from rfl, run_equalIn_agg W 9999 26 _ _ hS hp]
  simp only [Program.fieldsOf, Try.underlying26]
  obtain ⟨t1, b1, s1⟩ := o
  obtain ⟨t2, b2, s2⟩ := p
  simp only [Rv.mk.injEq] at hb
  go_simp
  by_cases h1 : t1 = t2 <;> by_cases h2 : b1 = b2 <;> by_cases h3 : s1 = s2 <;> simp_all

theorem dN_rbelow (W : World) (n : Nat) : Below W.heap.size W (W.drewN n) := ⟨rfl, rfl, rfl, Nat.le_refl _, fun _ _ => rfl⟩

end Go.Proofs.Ytoeflkmhofkiaaa

namespace Go.Proofs.Ytoeflkmhofkiaaa
open Go.RowKit
set_option maxRecDepth 100000

attribute [-go_sem] loadCells loadCellsFrom

end Go.Proofs.Ytoeflkmhofkiaaa

namespace Go.Proofs.Ytoeflkmhofkiaaa
open Go.RowKit
set_option maxRecDepth 100000

theorem impl_within (a b c : Int) (w : World) :
    Calls Try.prog 73 #[.int .i64 a, .int .i64 b, .int .i64 c] w fun e w' => e = .returned (.bool (decide (b ≤ a ∧ a ≤ c))) ∧ w = w' := by
  by_cases h1 : b ≤ a
  · by_cases h2 : a ≤ c
    · rw [decide_eq_true ⟨h1, h2⟩]
      go_enter Try.func73, Try.ntmps73
      go_wp2_with (fail)
      go_ret
      exact ⟨rfl, rfl⟩
    · rw [decide_eq_false (fun h => h2 h.2)]
      go_enter Try.func73, Try.ntmps73
      go_wp2_with (fail)
      go_ret
      exact ⟨rfl, rfl⟩
  · rw [decide_eq_false (fun h => h1 h.1)]
    go_enter Try.func73, Try.ntmps73
    go_wp2_with (fail)
    go_ret
    exact ⟨rfl, rfl⟩
theorem spec_in (a b c : Int) (w : World) :
    Calls Try.prog 58 #[.int .i64 a, .int .i64 b, .int .i64 c] w fun e w' => e = .returned (.bool (decide (b ≤ a ∧ a ≤ c))) ∧ w = w' := by
  by_cases h1 : b ≤ a
  · by_cases h2 : a ≤ c
    · rw [decide_eq_true ⟨h1, h2⟩]
      go_enter Try.func58, Try.ntmps58
      go_wp2_with (fail)
      go_ret
      exact ⟨rfl, rfl⟩
    · rw [decide_eq_false (fun h => h2 h.2)]
      go_enter Try.func58, Try.ntmps58
      go_wp2_with (fail)
      go_ret
      exact ⟨rfl, rfl⟩
  · rw [decide_eq_false (fun h => h1 h.1)]
    go_enter Try.func58, Try.ntmps58
    go_wp2_with (fail)
    go_ret
    exact ⟨rfl, rfl⟩

/-- The first place at which p holds. -/
def idxP (p : Av → Bool) (xs : List Av) : Int := if xs.findIdx p < xs.length then (xs.findIdx p : Int) else -1

theorem idx_at (xs : List Av) (id : Int) : idxP (fun m => decide (m.id = id)) xs = atInt xs id := by
  unfold idxP atInt
  induction xs with
  | nil => rfl
  | cons x r ih =>
    unfold atA
    rw [List.findIdx_cons]
    by_cases h : x.id = id
    · rw [decide_eq_true h, if_pos h]
      simp
    · rw [decide_eq_false h, if_neg h]
      simp only [cond_false, List.length_cons]
      cases hr : atA id r with
      | none =>
        rw [hr] at ih
        simp only [Option.map_none]
        by_cases hf : r.findIdx (fun m => decide (m.id = id)) < r.length
        · rw [if_pos hf] at ih; simp only at ih; omega
        · rw [if_neg (by omega)]
      | some i =>
        rw [hr] at ih
        simp only [Option.map_some]
        by_cases hf : r.findIdx (fun m => decide (m.id = id)) < r.length
        · rw [if_pos hf] at ih; rw [if_pos (by omega)]; simp only at ih; omega
        · rw [if_neg hf] at ih; simp only at ih; omega
theorem idx_has (xs : List Av) (a : Int) : decide (0 ≤ idxP (fun m => decide (m.addr = a)) xs) = decide (a ∈ xs.map (·.addr)) := by
  unfold idxP
  by_cases h : xs.findIdx (fun m => decide (m.addr = a)) < xs.length
  · rw [if_pos h, decide_eq_true (by omega)]
    symm
    refine decide_eq_true ?_
    rw [List.findIdx_lt_length] at h
    obtain ⟨x, hx, he⟩ := h
    exact List.mem_map.2 ⟨x, hx, by simpa using he⟩
  · rw [if_neg h, decide_eq_false (by omega)]
    symm
    refine decide_eq_false (fun hm => h ?_)
    obtain ⟨x, hx, he⟩ := List.mem_map.1 hm
    rw [List.findIdx_lt_length]
    exact ⟨x, hx, by simpa using he⟩

theorem below_int (w : World) (n : Int) : Below w.heap.size w (w.alloc (.cells #[.int .i64 n] 3)) ∧ (w.alloc (.cells #[.int .i64 n] 3)).cell? ⟨w.heap.size, 0, none⟩ = some (.int .i64 n) := ⟨below_new _ _, (Cel.new w 3 #[.int .i64 n]).cell 0⟩

end Go.Proofs.Ytoeflkmhofkiaaa

namespace Go.Proofs.Ytoeflkmhofkiaaa
open Go.RowKit
set_option maxRecDepth 100000

/-- Marks from k on, four an address. -/
def fl3 (x : Int) : Bool := Int.tmod x 3 == 0
def avM (k : Nat) : Av := ⟨(k : Int), ((k + 1 : Nat) : Int), fl3 ((k + 2 : Nat) : Int), fl3 ((k + 3 : Nat) : Int)⟩
def markV (k : Nat) : Nat → List Av
  | 0 => []
  | n + 1 => avM k :: markV (k + 4) n
theorem markV_length (k n : Nat) : (markV k n).length = n := by
  induction n generalizing k with
  | zero => rfl
  | succ n ih => simp [markV, ih]
theorem markV_at (k n i : Nat) (h : i < n) : (markV k n)[i]'(by rw [markV_length]; exact h) = avM (k + i * 4) := by
  induction n generalizing k i with
  | zero => omega
  | succ n ih =>
    cases i with
    | zero => simp [markV]
    | succ i =>
      simp only [markV, List.getElem_cons_succ]
      rw [ih (k + 4) i (by omega)]
      congr 1
      omega
theorem markV_snoc (k n : Nat) : markV k (n + 1) = markV k n ++ [avM (k + n * 4)] := by
  induction n generalizing k with
  | zero => simp [markV]
  | succ n ih =>
    rw [markV, ih (k + 4), markV]
    simp only [List.cons_append]
    have e : k + 4 + n * 4 = k + (n + 1) * 4 := by omega
    rw [e]
/-- The first p replaced by marks. -/
def markedV (ms : List Av) (k p : Nat) : List Av := markV k p ++ ms.drop p
theorem markedV_zero (ms : List Av) (k : Nat) : markedV ms k 0 = ms := by simp [markedV, markV]
theorem markedV_all (ms : List Av) (k : Nat) : markedV ms k ms.length = markV k ms.length := by simp [markedV]
theorem markedV_length (ms : List Av) (k p : Nat) (h : p ≤ ms.length) : (markedV ms k p).length = ms.length := by simp [markedV, markV_length]; omega
theorem markedV_succ (ms : List Av) (k p : Nat) (h : p < ms.length) : markedV ms k (p + 1) = (markedV ms k p).set p (avM (k + p * 4)) := by
  unfold markedV
  rw [markV_snoc, List.set_append_right _ _ (by rw [markV_length]; omega), markV_length, Nat.sub_self]
  conv => rhs; rw [List.drop_eq_getElem_cons h]
  rw [List.set_cons_zero, List.append_assoc]
  rfl
attribute [irreducible] markV markedV
theorem av_setC (W : World) (g o : Nat) (x y : Int) (b c : Bool) : W.setCells g o (Av.cells ⟨x, y, b, c⟩) = (((W.setCell ⟨g, o, none⟩ (.int .i64 x)).setCell ⟨g, o + 1, none⟩ (.int .i64 y)).setCell ⟨g, o + 2, none⟩ (.bool b)).setCell ⟨g, o + 3, none⟩ (.bool c) := rfl

end Go.Proofs.Ytoeflkmhofkiaaa

namespace Go.Proofs.Ytoeflkmhofkiaaa
open Go.RowKit
set_option maxRecDepth 100000

theorem below_sets3 (w W : World) (x0 x1 x2 : Value) : Below w.heap.size W (((W.setCell ⟨w.heap.size, 0, none⟩ (x0)).setCell ⟨w.heap.size, 1, none⟩ (x1)).setCell ⟨w.heap.size, 2, none⟩ (x2)) :=
  ((((Below.refl _ _).setCell (p := ⟨w.heap.size, 0, none⟩) (Nat.le_refl _) _).setCell (p := ⟨w.heap.size, 1, none⟩) (Nat.le_refl _) _).setCell (p := ⟨w.heap.size, 2, none⟩) (Nat.le_refl _) _)

set_option maxHeartbeats 2000000 in
set_option maxRecDepth 100000 in
theorem road_dr (g : Nat) (v : Value) (n : Nat) (w : World) (hd : Dr w g v n) :
    Calls Try.prog 53 #[.pointer (some ⟨g, 0, none⟩)] w fun e w' => ∃ m : Rv, e = .returned (.agg #[.int .i64 m.own, .int .i64 m.far, .int .i64 m.port]) ∧ Dr w' g v n ∧ Grew g w w' := by
  have hg := hd.blk
  have hb0 := below_new w (.cells #[.int .i64 0, .int .i64 0, .int .i64 0] 26)
  have hd0 := hd.kept hb0
  have hC0 := Cel.new w 26 #[.int .i64 0, .int .i64 0, .int .i64 0]
  have c3 := fun W h => bel_dr g v n 3 3 rfl W h (by omega) (by omega)
  have HE := Lib.hid (And.intro hC0 (Grew.then (Grew.refl g w) hb0))
  clear hb0 hC0 hd
  go_enter Try.func53, Try.ntmps53
  go_wp2_with (fail)
  with_reducible refine (c3 _ hd0).mono ?_
  rintro e w1 ⟨r1, hr1, rfl, d1, o1⟩
  have HE1 := Lib.hid (And.intro (HE.out.1.only o1 (by omega)) (HE.out.2.only o1))
  have e1 : IntKind.i64.wrap (11 + (r1 : Int)) = 11 + (r1 : Int) := IntWalk.i64_in _ (by omega)
  clear HE o1 hd0
  go_wp2_with (fail)
  with_reducible refine (c3 _ d1).mono ?_
  rintro e w2 ⟨r2, hr2, rfl, d2, o2⟩
  have HE2 := Lib.hid (And.intro (HE1.out.1.only o2 (by omega)) (HE1.out.2.only o2))
  have e2 : IntKind.i64.wrap (21 + (r2 : Int)) = 21 + (r2 : Int) := IntWalk.i64_in _ (by omega)
  clear HE1 o2 d1
  go_wp2_with (fail)
  with_reducible refine (c3 _ d2).mono ?_
  rintro e w3 ⟨r3, hr3, rfl, d3, o3⟩
  have hC3 := HE2.out.1.only o3 (by omega)
  obtain ⟨k0, k1, k2⟩ := cel3r hC3
  have f0 := hC3.frozen 0
  have f1 := hC3.frozen 1
  have f2 := hC3.frozen 2
  have HG := Lib.hid (And.intro (HE2.out.2.only o3) d3)
  clear HE2 o3 d2 c3 hC3 d3
  go_wp2_with (fail)
  have hB5 := below_sets3 w w3 (.int .i64 (11 + (r1 : Int))) (.int .i64 (21 + (r2 : Int))) (.int .i64 (r3 : Int))
  exact bodyPost_ret (v := .agg #[.int .i64 (11 + (r1 : Int)), .int .i64 (21 + (r2 : Int)), .int .i64 (r3 : Int)]) (by simp [results, Try.results53, go_sem, k0, k1, k2]) rfl ⟨⟨11 + (r1 : Int), 21 + (r2 : Int), r3⟩, rfl, HG.out.2.below hB5 hg, HG.out.1.then hB5⟩
end Go.Proofs.Ytoeflkmhofkiaaa

namespace Go.Proofs.Ytoeflkmhofkiaaa
open Go.RowKit
set_option maxRecDepth 100000

set_option maxRecDepth 100000 in
theorem eql_tv (o p : Tv) (W : World) (b : Bool) (hb : b = true ↔ o = p) :
    (binOp .eql 39 (.agg #[.int .i64 o.kind, .int .i64 o.one, .int .i64 o.two, .int .i64 o.a, .int .i64 o.b]) (.agg #[.int .i64 p.kind, .int .i64 p.one, .int .i64 p.two, .int .i64 p.a, .int .i64 p.b])).run Try.prog W = .ok (.bool b) W := by
  have u3 := Try.underlying3
  have a3 := Try.isAgg3
  have z3 := Try.sizeOf3
  have hS : Try.prog.underlying 39 = some (.struct (Try.prog.fieldsOf 39)) := by kernel_rfl
  have hp : Try.prog.stoodInHeld 39 = false := by kernel_rfl
  rw [run_eql_struct, show (10000 : Nat) = 9999 + 1 from rfl, run_equalIn_agg W 9999 39 _ _ hS hp]
  simp only [Program.fieldsOf, Try.underlying39]
  obtain ⟨t1, b1, s1, x1, y1⟩ := o
  obtain ⟨t2, b2, s2, x2, y2⟩ := p
  simp only [Tv.mk.injEq] at hb
  go_simp
  by_cases h1 : t1 = t2 <;> by_cases h2 : b1 = b2 <;> by_cases h3 : s1 = s2 <;> by_cases h4 : x1 = x2 <;> by_cases h5 : y1 = y2 <;> simp_all

set_option maxRecDepth 100000 in
theorem neq_tv (o p : Tv) (W : World) (b : Bool) (hb : b = true ↔ ¬ o = p) :
    (binOp .neq 39 (.agg #[.int .i64 o.kind, .int .i64 o.one, .int .i64 o.two, .int .i64 o.a, .int .i64 o.b]) (.agg #[.int .i64 p.kind, .int .i64 p.one, .int .i64 p.two, .int .i64 p.a, .int .i64 p.b])).run Try.prog W = .ok (.bool b) W := by
  have u3 := Try.underlying3
  have a3 := Try.isAgg3
  have z3 := Try.sizeOf3
  have hS : Try.prog.underlying 39 = some (.struct (Try.prog.fieldsOf 39)) := by kernel_rfl
  have hp : Try.prog.stoodInHeld 39 = false := by kernel_rfl
  rw [run_neq_struct, show (10000 : Nat) = 9999 + 1 from rfl, run_equalIn_agg W 9999 39 _ _ hS hp]
  simp only [Program.fieldsOf, Try.underlying39]
  obtain ⟨t1, b1, s1, x1, y1⟩ := o
  obtain ⟨t2, b2, s2, x2, y2⟩ := p
  simp only [Tv.mk.injEq] at hb
  go_simp
  by_cases h1 : t1 = t2 <;> by_cases h2 : b1 = b2 <;> by_cases h3 : s1 = s2 <;> by_cases h4 : x1 = x2 <;> by_cases h5 : y1 = y2 <;> simp_all

end Go.Proofs.Ytoeflkmhofkiaaa

namespace Go.Proofs.Ytoeflkmhofkiaaa
open Go.Joins Go.ChangeShapes Go.WideShapes Go.RowKit Go.Deep
set_option maxRecDepth 100000

theorem ecellsBool : Try.prog.cellsOf 4 = 1 := by kernel_rfl

end Go.Proofs.Ytoeflkmhofkiaaa

namespace Go.Proofs.Ytoeflkmhofkiaaa
open Go.Joins Go.ChangeShapes Go.WideShapes Go.RowKit Go.Deep
set_option maxRecDepth 100000

theorem cellsLvL : Try.prog.cellsOf 61 = 19 := by kernel_rfl

theorem lv_cells {H : Type} {enc : TypeId × Value → H} {W : World} {fuel : Nat} {cs : List Value} {x : DataW H × List MemPlace}
    (h : DataW.trod enc Try.prog W 0 (fun _ => true) true fuel 61 cs = some x) : ∃ m : Lv, cs = lvK.cs m ∧ (m.text.size ≤ maxLen) := by
  obtain ⟨xs, n, _, hx, hl, hlen, hg⟩ := DataW.trod_struct Try.underlying61 h
  match cs, hl.trans cellsLvL with
  | [c0, c1, c2, c3, c4, c5, c6, c7, c8, c9, c10, c11, c12, c13, c14, c15, c16, c17, c18], _ =>
    match xs, hlen with
    | [y0, y1, y2, y3, y4, y5, y6, y7, y8, y9, y10, y11, y12, y13, y14], _ =>
      have g0 : DataW.trod enc Try.prog W 0 (fun _ => true) true n 3 [c0] = some y0 := by have := hg 0 _ rfl; simpa [ecellsInt] using this
      have g1 : DataW.trod enc Try.prog W 0 (fun _ => true) true n 3 [c1] = some y1 := by have := hg 1 _ rfl; simpa [ecellsInt] using this
      have g2 : DataW.trod enc Try.prog W 0 (fun _ => true) true n 3 [c2] = some y2 := by have := hg 2 _ rfl; simpa [ecellsInt] using this
      have g3 : DataW.trod enc Try.prog W 0 (fun _ => true) true n 3 [c3] = some y3 := by have := hg 3 _ rfl; simpa [ecellsInt] using this
      have g4 : DataW.trod enc Try.prog W 0 (fun _ => true) true n 3 [c4] = some y4 := by have := hg 4 _ rfl; simpa [ecellsInt] using this
      have g5 : DataW.trod enc Try.prog W 0 (fun _ => true) true n 3 [c5] = some y5 := by have := hg 5 _ rfl; simpa [ecellsInt] using this
      have g6 : DataW.trod enc Try.prog W 0 (fun _ => true) true n 3 [c6] = some y6 := by have := hg 6 _ rfl; simpa [ecellsInt] using this
      have g7 : DataW.trod enc Try.prog W 0 (fun _ => true) true n 3 [c7] = some y7 := by have := hg 7 _ rfl; simpa [ecellsInt] using this
      have g8 : DataW.trod enc Try.prog W 0 (fun _ => true) true n 3 [c8] = some y8 := by have := hg 8 _ rfl; simpa [ecellsInt] using this
      have g9 : DataW.trod enc Try.prog W 0 (fun _ => true) true n 59 [c9, c10, c11, c12, c13] = some y9 := by have := hg 9 _ rfl; simpa [cellsTvL] using this
      have g10 : DataW.trod enc Try.prog W 0 (fun _ => true) true n 3 [c14] = some y10 := by have := hg 10 _ rfl; simpa [ecellsInt] using this
      have g11 : DataW.trod enc Try.prog W 0 (fun _ => true) true n 3 [c15] = some y11 := by have := hg 11 _ rfl; simpa [ecellsInt] using this
      have g12 : DataW.trod enc Try.prog W 0 (fun _ => true) true n 4 [c16] = some y12 := by have := hg 12 _ rfl; simpa [ecellsBool] using this
      have g13 : DataW.trod enc Try.prog W 0 (fun _ => true) true n 3 [c17] = some y13 := by have := hg 13 _ rfl; simpa [ecellsInt] using this
      have g14 : DataW.trod enc Try.prog W 0 (fun _ => true) true n 9 [c18] = some y14 := by have := hg 14 _ rfl; simpa [ecellsStr] using this
      obtain ⟨n0, e0, -, -⟩ := DataW.trod_int Try.underlying3 g0
      obtain ⟨n1, e1, -, -⟩ := DataW.trod_int Try.underlying3 g1
      obtain ⟨n2, e2, -, -⟩ := DataW.trod_int Try.underlying3 g2
      obtain ⟨n3, e3, -, -⟩ := DataW.trod_int Try.underlying3 g3
      obtain ⟨n4, e4, -, -⟩ := DataW.trod_int Try.underlying3 g4
      obtain ⟨n5, e5, -, -⟩ := DataW.trod_int Try.underlying3 g5
      obtain ⟨n6, e6, -, -⟩ := DataW.trod_int Try.underlying3 g6
      obtain ⟨n7, e7, -, -⟩ := DataW.trod_int Try.underlying3 g7
      obtain ⟨n8, e8, -, -⟩ := DataW.trod_int Try.underlying3 g8
      obtain ⟨n9, e9, -⟩ := tv_cells g9
      simp only [tvK] at e9
      obtain ⟨n10, e10, -, -⟩ := DataW.trod_int Try.underlying3 g10
      obtain ⟨n11, e11, -, -⟩ := DataW.trod_int Try.underlying3 g11
      obtain ⟨n12, e12, -⟩ := DataW.trod_bool Try.underlying4 g12
      obtain ⟨n13, e13, -, -⟩ := DataW.trod_int Try.underlying3 g13
      obtain ⟨n14, e14, -, hb14⟩ := DataW.trod_string Try.underlying9 g14
      simp only [List.cons.injEq, and_true] at e0 e1 e2 e3 e4 e5 e6 e7 e8 e9 e10 e11 e12 e13 e14
      subst e0
      subst e1
      subst e2
      subst e3
      subst e4
      subst e5
      subst e6
      subst e7
      subst e8
      obtain ⟨rfl, rfl, rfl, rfl, rfl⟩ := e9
      subst e10
      subst e11
      subst e12
      subst e13
      subst e14
      exact ⟨⟨n0, n1, n2, n3, n4, n5, n6, n7, n8, n9, n10, n11, n12, n13, n14⟩, rfl, hb14⟩

theorem open_letter {H : Type} {enc : TypeId × Value → H} {W : World} {base : Nat} {v : Value} {d : DataW H} {p : List MemPlace} (hval : Value.okWide Try.prog W .any base 61 v)
    (h : DataW.Trod enc Try.prog W 0 (fun _ => true) true 61 v d p) : ∃ m : Lv, v = .agg #[.int .i64 m.kind, .int .i64 m.frm, .int .i64 m.to, .int .i64 m.port, .int .i64 m.key, .int .i64 m.token, .int .i64 m.nonce, .int .i64 m.give, .int .i64 m.sign, .int .i64 m.tag.kind, .int .i64 m.tag.one, .int .i64 m.tag.two, .int .i64 m.tag.a, .int .i64 m.tag.b, .int .i64 m.id, .int .i64 m.addr, .bool m.spare, .int .i64 m.pos, .string m.text] ∧ m.text.size ≤ maxLen := by
  obtain ⟨cs, rfl, hsz⟩ := okWide_struct Try.underlying61 hval
  obtain ⟨fuel, hf⟩ := h
  obtain ⟨m, hm, hbd⟩ := lv_cells hf
  refine ⟨m, ?_, hbd⟩
  simp only [Value.cells] at hm
  rw [Array.toList_inj.1 (show cs.toList = (#[.int .i64 m.kind, .int .i64 m.frm, .int .i64 m.to, .int .i64 m.port, .int .i64 m.key, .int .i64 m.token, .int .i64 m.nonce, .int .i64 m.give, .int .i64 m.sign, .int .i64 m.tag.kind, .int .i64 m.tag.one, .int .i64 m.tag.two, .int .i64 m.tag.a, .int .i64 m.tag.b, .int .i64 m.id, .int .i64 m.addr, .bool m.spare, .int .i64 m.pos, .string m.text] : Array Value).toList from hm)]
end Go.Proofs.Ytoeflkmhofkiaaa

