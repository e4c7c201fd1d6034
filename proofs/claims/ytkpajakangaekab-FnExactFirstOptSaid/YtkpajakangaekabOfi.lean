import Derived.Test.YtkpajakangaekabOfr
import Derived.BigQuiet
namespace Go.Proofs.Ytkpajakangaekab
open Go.RowKit

/-- Three cells of a block stay. -/
theorem keep3 {w W W' : World} {g : Nat} {x0 x1 x2 : Value} (h : W.cell? ⟨g, 0, none⟩ = some x0 ∧ W.cell? ⟨g, 1, none⟩ = some x1 ∧ W.cell? ⟨g, 2, none⟩ = some x2 ∧ Below w.heap.size w W) (hb : Below W.heap.size W W') :
    W'.cell? ⟨g, 0, none⟩ = some x0 ∧ W'.cell? ⟨g, 1, none⟩ = some x1 ∧ W'.cell? ⟨g, 2, none⟩ = some x2 ∧ Below w.heap.size w W' := by
  obtain ⟨h0, h1, h2, h4⟩ := h
  have hlt := World.block_lt_of_cell? _ _ h0
  have hc := fun j => hb.cell (p := ⟨g, j, none⟩) hlt
  exact ⟨by rw [hc]; exact h0, by rw [hc]; exact h1, by rw [hc]; exact h2, Below.then_ h4 hb⟩

theorem flagTx_le (b : Bool) : (flagTx b).size ≤ 6 := numTx_le _ _
theorem ofSz8_le (t : ByteArray) : (ofSz t 8).size ≤ 8 := by have := ofSz_le t 8 (by omega); omega

set_option maxHeartbeats 1000000 in
theorem ft_join (id : Int) (flag : Bool) (token : Int) (nonce : Int) (w : World) :
    Calls Try.prog 101 #[.agg #[.int .i64 id, .bool flag, .int .i64 token, .int .i64 nonce]] w fun e w' => e = .returned (.string (rowOf [numText id 1, flagTx flag, numText token 4, numText nonce 4])) ∧ Below w.heap.size w w' := by
  have z0 := numTx_le id 1
  have c0 := fun W => impl_numText id 1 W
  have z1 := flagTx_le flag
  have c1 := fun W => impl_flag flag W
  have z2 := numTx_le token 4
  have c2 := fun W => impl_numText token 4 W
  have z3 := numTx_le nonce 4
  have c3 := fun W => impl_numText nonce 4 W
  generalize numText id 1 = t0 at *
  generalize flagTx flag = t1 at *
  generalize numText token 4 = t2 at *
  generalize numText nonce 4 = t3 at *
  have c5 := fun W => inarow4 t0 t1 t2 t3 W (by omega)
  have c6 := fun W => inarow4d t0 t1 t2 t3 W (by omega)
  generalize rowOf [t0, t1, t2, t3] = r at *
  clear z0 z1 z2 z3
  have hblk : Cel (w.alloc (.cells #[.int .i64 id, .bool flag, .int .i64 token, .int .i64 nonce] 87)) w.heap.size 87 #[.int .i64 id, .bool flag, .int .i64 token, .int .i64 nonce] := Cel.new _ _ _
  have hB := below_new w (.cells #[.int .i64 id, .bool flag, .int .i64 token, .int .i64 nonce] 87)
  go_enter Try.func101, Try.ntmps101
  go_wp2_with (fail)
  have hblk := hblk.drew
  have hS := (And.intro (hblk.cell 0) (And.intro (hblk.cell 1) (And.intro (hblk.cell 2) (And.intro (hblk.cell 3) hB.drew))))
  clear hblk hB
  generalize w.alloc (.cells #[.int .i64 id, .bool flag, .int .i64 token, .int .i64 nonce] 87) = W1 at hS ⊢
  go_region_held3 (fun W => W.cell? ⟨w.heap.size, 0, none⟩ = some (.int .i64 id) ∧ W.cell? ⟨w.heap.size, 1, none⟩ = some (.bool flag) ∧ W.cell? ⟨w.heap.size, 2, none⟩ = some (.int .i64 token) ∧ W.cell? ⟨w.heap.size, 3, none⟩ = some (.int .i64 nonce) ∧ Below w.heap.size w W)
    (first | exact hS | exact keep4 (by assumption) (by assumption) | exact keep4 (by assumption) (below_new _ _) | go_keep)
    (first
      | (go_at_call 32; (with_reducible refine (c0 _).mono ?_); rintro e w2 ⟨rfl, hb0⟩)
      | (go_at_call 103; (with_reducible refine (c1 _).mono ?_); rintro e w3 ⟨rfl, hb1⟩)
      | (go_at_call 32; (with_reducible refine (c2 _).mono ?_); rintro e w4 ⟨rfl, hb2⟩)
      | (go_at_call 32; (with_reducible refine (c3 _).mono ?_); rintro e w5 ⟨rfl, hb3⟩)
      | (go_at_call 102; (with_reducible refine (c5 _).mono ?_); rintro e wz ⟨rfl, hbz⟩)
      | (go_at_call 102; (with_reducible refine (c6 _).mono ?_); rintro e wz ⟨rfl, hbz⟩))
  have hh : wz.cell? ⟨w.heap.size, 0, none⟩ = some (.int .i64 id) ∧ wz.cell? ⟨w.heap.size, 1, none⟩ = some (.bool flag) ∧ wz.cell? ⟨w.heap.size, 2, none⟩ = some (.int .i64 token) ∧ wz.cell? ⟨w.heap.size, 3, none⟩ = some (.int .i64 nonce) ∧ Below w.heap.size w wz := by assumption
  go_wp2_with (fail)
  go_ret
  exact ⟨rfl, hh.2.2.2.2⟩

set_option maxHeartbeats 1000000 in
theorem ft_back (id : Int) (flag : Bool) (mark : ByteArray) (nonce : Int) (w : World) :
    Calls Try.prog 114 #[.agg #[.int .i64 id, .bool flag, .string mark, .int .i64 nonce]] w fun e w' => e = .returned (.string (rowOf [numText id 1, flagTx flag, ofSz mark 8, numText nonce 4])) ∧ Below w.heap.size w w' := by
  have z0 := numTx_le id 1
  have c0 := fun W => impl_numText id 1 W
  have z1 := flagTx_le flag
  have c1 := fun W => impl_flag flag W
  have z2 := ofSz8_le mark
  have c2 := fun W => impl_ofsize mark 8 W
  have z3 := numTx_le nonce 4
  have c3 := fun W => impl_numText nonce 4 W
  generalize numText id 1 = t0 at *
  generalize flagTx flag = t1 at *
  generalize ofSz mark 8 = t2 at *
  generalize numText nonce 4 = t3 at *
  have c5 := fun W => inarow4 t0 t1 t2 t3 W (by omega)
  have c6 := fun W => inarow4d t0 t1 t2 t3 W (by omega)
  generalize rowOf [t0, t1, t2, t3] = r at *
  clear z0 z1 z2 z3
  have hblk : Cel (w.alloc (.cells #[.int .i64 id, .bool flag, .string mark, .int .i64 nonce] 89)) w.heap.size 89 #[.int .i64 id, .bool flag, .string mark, .int .i64 nonce] := Cel.new _ _ _
  have hB := below_new w (.cells #[.int .i64 id, .bool flag, .string mark, .int .i64 nonce] 89)
  go_enter Try.func114, Try.ntmps114
  go_wp2_with (fail)
  have hblk := hblk.drew
  have hS := (And.intro (hblk.cell 0) (And.intro (hblk.cell 1) (And.intro (hblk.cell 2) (And.intro (hblk.cell 3) hB.drew))))
  clear hblk hB
  generalize w.alloc (.cells #[.int .i64 id, .bool flag, .string mark, .int .i64 nonce] 89) = W1 at hS ⊢
  go_region_held3 (fun W => W.cell? ⟨w.heap.size, 0, none⟩ = some (.int .i64 id) ∧ W.cell? ⟨w.heap.size, 1, none⟩ = some (.bool flag) ∧ W.cell? ⟨w.heap.size, 2, none⟩ = some (.string mark) ∧ W.cell? ⟨w.heap.size, 3, none⟩ = some (.int .i64 nonce) ∧ Below w.heap.size w W)
    (first | exact hS | exact keep4 (by assumption) (by assumption) | exact keep4 (by assumption) (below_new _ _) | go_keep)
    (first
      | (go_at_call 32; (with_reducible refine (c0 _).mono ?_); rintro e w2 ⟨rfl, hb0⟩)
      | (go_at_call 103; (with_reducible refine (c1 _).mono ?_); rintro e w3 ⟨rfl, hb1⟩)
      | (go_at_call 100; (with_reducible refine (c2 _).mono ?_); rintro e w4 ⟨rfl, rfl⟩)
      | (go_at_call 32; (with_reducible refine (c3 _).mono ?_); rintro e w5 ⟨rfl, hb3⟩)
      | (go_at_call 102; (with_reducible refine (c5 _).mono ?_); rintro e wz ⟨rfl, hbz⟩)
      | (go_at_call 102; (with_reducible refine (c6 _).mono ?_); rintro e wz ⟨rfl, hbz⟩))
  have hh : wz.cell? ⟨w.heap.size, 0, none⟩ = some (.int .i64 id) ∧ wz.cell? ⟨w.heap.size, 1, none⟩ = some (.bool flag) ∧ wz.cell? ⟨w.heap.size, 2, none⟩ = some (.string mark) ∧ wz.cell? ⟨w.heap.size, 3, none⟩ = some (.int .i64 nonce) ∧ Below w.heap.size w wz := by assumption
  go_wp2_with (fail)
  go_ret
  exact ⟨rfl, hh.2.2.2.2⟩

set_option maxHeartbeats 1000000 in
theorem ft_data (ack : Int) (seq : Int) (sub : Int) (len : Int) (w : World) :
    Calls Try.prog 116 #[.agg #[.int .i64 ack, .int .i64 seq, .int .i64 sub, .int .i64 len]] w fun e w' => e = .returned (.string (rowOf [numText ack 6, numText seq 6, numText sub 4, numText len 2])) ∧ Below w.heap.size w w' := by
  have z0 := numTx_le ack 6
  have c0 := fun W => impl_numText ack 6 W
  have z1 := numTx_le seq 6
  have c1 := fun W => impl_numText seq 6 W
  have z2 := numTx_le sub 4
  have c2 := fun W => impl_numText sub 4 W
  have z3 := numTx_le len 2
  have c3 := fun W => impl_numText len 2 W
  generalize numText ack 6 = t0 at *
  generalize numText seq 6 = t1 at *
  generalize numText sub 4 = t2 at *
  generalize numText len 2 = t3 at *
  have c5 := fun W => inarow4 t0 t1 t2 t3 W (by omega)
  have c6 := fun W => inarow4d t0 t1 t2 t3 W (by omega)
  generalize rowOf [t0, t1, t2, t3] = r at *
  clear z0 z1 z2 z3
  have hblk : Cel (w.alloc (.cells #[.int .i64 ack, .int .i64 seq, .int .i64 sub, .int .i64 len] 93)) w.heap.size 93 #[.int .i64 ack, .int .i64 seq, .int .i64 sub, .int .i64 len] := Cel.new _ _ _
  have hB := below_new w (.cells #[.int .i64 ack, .int .i64 seq, .int .i64 sub, .int .i64 len] 93)
  go_enter Try.func116, Try.ntmps116
  go_wp2_with (fail)
  have hblk := hblk.drew
  have hS := (And.intro (hblk.cell 0) (And.intro (hblk.cell 1) (And.intro (hblk.cell 2) (And.intro (hblk.cell 3) hB.drew))))
  clear hblk hB
  generalize w.alloc (.cells #[.int .i64 ack, .int .i64 seq, .int .i64 sub, .int .i64 len] 93) = W1 at hS ⊢
  go_region_held3 (fun W => W.cell? ⟨w.heap.size, 0, none⟩ = some (.int .i64 ack) ∧ W.cell? ⟨w.heap.size, 1, none⟩ = some (.int .i64 seq) ∧ W.cell? ⟨w.heap.size, 2, none⟩ = some (.int .i64 sub) ∧ W.cell? ⟨w.heap.size, 3, none⟩ = some (.int .i64 len) ∧ Below w.heap.size w W)
    (first | exact hS | exact keep4 (by assumption) (by assumption) | exact keep4 (by assumption) (below_new _ _) | go_keep)
    (first
      | (go_at_call 32; (with_reducible refine (c0 _).mono ?_); rintro e w2 ⟨rfl, hb0⟩)
      | (go_at_call 32; (with_reducible refine (c1 _).mono ?_); rintro e w3 ⟨rfl, hb1⟩)
      | (go_at_call 32; (with_reducible refine (c2 _).mono ?_); rintro e w4 ⟨rfl, hb2⟩)
      | (go_at_call 32; (with_reducible refine (c3 _).mono ?_); rintro e w5 ⟨rfl, hb3⟩)
      | (go_at_call 102; (with_reducible refine (c5 _).mono ?_); rintro e wz ⟨rfl, hbz⟩)
      | (go_at_call 102; (with_reducible refine (c6 _).mono ?_); rintro e wz ⟨rfl, hbz⟩))
  have hh : wz.cell? ⟨w.heap.size, 0, none⟩ = some (.int .i64 ack) ∧ wz.cell? ⟨w.heap.size, 1, none⟩ = some (.int .i64 seq) ∧ wz.cell? ⟨w.heap.size, 2, none⟩ = some (.int .i64 sub) ∧ wz.cell? ⟨w.heap.size, 3, none⟩ = some (.int .i64 len) ∧ Below w.heap.size w wz := by assumption
  go_wp2_with (fail)
  go_ret
  exact ⟨rfl, hh.2.2.2.2⟩

set_option maxHeartbeats 1000000 in
theorem ft_addr (id : Int) (addr : Int) (port : Int) (mark : ByteArray) (w : World) :
    Calls Try.prog 117 #[.agg #[.int .i64 id, .int .i64 addr, .int .i64 port, .string mark]] w fun e w' => e = .returned (.string (rowOf [numText id 1, numText addr 4, numText port 2, ofSz mark 8])) ∧ Below w.heap.size w w' := by
  have z0 := numTx_le id 1
  have c0 := fun W => impl_numText id 1 W
  have z1 := numTx_le addr 4
  have c1 := fun W => impl_numText addr 4 W
  have z2 := numTx_le port 2
  have c2 := fun W => impl_numText port 2 W
  have z3 := ofSz8_le mark
  have c3 := fun W => impl_ofsize mark 8 W
  generalize numText id 1 = t0 at *
  generalize numText addr 4 = t1 at *
  generalize numText port 2 = t2 at *
  generalize ofSz mark 8 = t3 at *
  have c5 := fun W => inarow4 t0 t1 t2 t3 W (by omega)
  have c6 := fun W => inarow4d t0 t1 t2 t3 W (by omega)
  generalize rowOf [t0, t1, t2, t3] = r at *
  clear z0 z1 z2 z3
  have hblk : Cel (w.alloc (.cells #[.int .i64 id, .int .i64 addr, .int .i64 port, .string mark] 95)) w.heap.size 95 #[.int .i64 id, .int .i64 addr, .int .i64 port, .string mark] := Cel.new _ _ _
  have hB := below_new w (.cells #[.int .i64 id, .int .i64 addr, .int .i64 port, .string mark] 95)
  go_enter Try.func117, Try.ntmps117
  go_wp2_with (fail)
  have hblk := hblk.drew
  have hS := (And.intro (hblk.cell 0) (And.intro (hblk.cell 1) (And.intro (hblk.cell 2) (And.intro (hblk.cell 3) hB.drew))))
  clear hblk hB
  generalize w.alloc (.cells #[.int .i64 id, .int .i64 addr, .int .i64 port, .string mark] 95) = W1 at hS ⊢
  go_region_held3 (fun W => W.cell? ⟨w.heap.size, 0, none⟩ = some (.int .i64 id) ∧ W.cell? ⟨w.heap.size, 1, none⟩ = some (.int .i64 addr) ∧ W.cell? ⟨w.heap.size, 2, none⟩ = some (.int .i64 port) ∧ W.cell? ⟨w.heap.size, 3, none⟩ = some (.string mark) ∧ Below w.heap.size w W)
    (first | exact hS | exact keep4 (by assumption) (by assumption) | exact keep4 (by assumption) (below_new _ _) | go_keep)
    (first
      | (go_at_call 32; (with_reducible refine (c0 _).mono ?_); rintro e w2 ⟨rfl, hb0⟩)
      | (go_at_call 32; (with_reducible refine (c1 _).mono ?_); rintro e w3 ⟨rfl, hb1⟩)
      | (go_at_call 32; (with_reducible refine (c2 _).mono ?_); rintro e w4 ⟨rfl, hb2⟩)
      | (go_at_call 100; (with_reducible refine (c3 _).mono ?_); rintro e w5 ⟨rfl, rfl⟩)
      | (go_at_call 102; (with_reducible refine (c5 _).mono ?_); rintro e wz ⟨rfl, hbz⟩)
      | (go_at_call 102; (with_reducible refine (c6 _).mono ?_); rintro e wz ⟨rfl, hbz⟩))
  have hh : wz.cell? ⟨w.heap.size, 0, none⟩ = some (.int .i64 id) ∧ wz.cell? ⟨w.heap.size, 1, none⟩ = some (.int .i64 addr) ∧ wz.cell? ⟨w.heap.size, 2, none⟩ = some (.int .i64 port) ∧ wz.cell? ⟨w.heap.size, 3, none⟩ = some (.string mark) ∧ Below w.heap.size w wz := by assumption
  go_wp2_with (fail)
  go_ret
  exact ⟨rfl, hh.2.2.2.2⟩

set_option maxHeartbeats 1000000 in
theorem ft_echo (id : Int) (addr : Int) (port : Int) (w : World) :
    Calls Try.prog 118 #[.agg #[.int .i64 id, .int .i64 addr, .int .i64 port]] w fun e w' => e = .returned (.string (rowOf [numText id 1, numText addr 4, numText port 2])) ∧ Below w.heap.size w w' := by
  have z0 := numTx_le id 1
  have c0 := fun W => impl_numText id 1 W
  have z1 := numTx_le addr 4
  have c1 := fun W => impl_numText addr 4 W
  have z2 := numTx_le port 2
  have c2 := fun W => impl_numText port 2 W
  generalize numText id 1 = t0 at *
  generalize numText addr 4 = t1 at *
  generalize numText port 2 = t2 at *
  have c5 := fun W => inarow3 t0 t1 t2 W (by omega)
  have c6 := fun W => inarow3d t0 t1 t2 W (by omega)
  generalize rowOf [t0, t1, t2] = r at *
  clear z0 z1 z2
  have hblk : Cel (w.alloc (.cells #[.int .i64 id, .int .i64 addr, .int .i64 port] 97)) w.heap.size 97 #[.int .i64 id, .int .i64 addr, .int .i64 port] := Cel.new _ _ _
  have hB := below_new w (.cells #[.int .i64 id, .int .i64 addr, .int .i64 port] 97)
  go_enter Try.func118, Try.ntmps118
  go_wp2_with (fail)
  have hblk := hblk.drew
  have hS := (And.intro (hblk.cell 0) (And.intro (hblk.cell 1) (And.intro (hblk.cell 2) hB.drew)))
  clear hblk hB
  generalize w.alloc (.cells #[.int .i64 id, .int .i64 addr, .int .i64 port] 97) = W1 at hS ⊢
  go_region_held3 (fun W => W.cell? ⟨w.heap.size, 0, none⟩ = some (.int .i64 id) ∧ W.cell? ⟨w.heap.size, 1, none⟩ = some (.int .i64 addr) ∧ W.cell? ⟨w.heap.size, 2, none⟩ = some (.int .i64 port) ∧ Below w.heap.size w W)
    (first | exact hS | exact keep3 (by assumption) (by assumption) | exact keep3 (by assumption) (below_new _ _) | go_keep)
    (first
      | (go_at_call 32; (with_reducible refine (c0 _).mono ?_); rintro e w2 ⟨rfl, hb0⟩)
      | (go_at_call 32; (with_reducible refine (c1 _).mono ?_); rintro e w3 ⟨rfl, hb1⟩)
      | (go_at_call 32; (with_reducible refine (c2 _).mono ?_); rintro e w4 ⟨rfl, hb2⟩)
      | (go_at_call 102; (with_reducible refine (c5 _).mono ?_); rintro e wz ⟨rfl, hbz⟩)
      | (go_at_call 102; (with_reducible refine (c6 _).mono ?_); rintro e wz ⟨rfl, hbz⟩))
  have hh : wz.cell? ⟨w.heap.size, 0, none⟩ = some (.int .i64 id) ∧ wz.cell? ⟨w.heap.size, 1, none⟩ = some (.int .i64 addr) ∧ wz.cell? ⟨w.heap.size, 2, none⟩ = some (.int .i64 port) ∧ Below w.heap.size w wz := by assumption
  go_wp2_with (fail)
  go_ret
  exact ⟨rfl, hh.2.2.2⟩

theorem ft_capable (key : ByteArray) (w : World) :
    Calls Try.prog 99 #[.agg #[.string key]] w fun e w' => e = .returned (.string (ofSz key 8)) ∧ Below w.heap.size w w' := by
  have c1 := fun W => impl_ofsize key 8 W
  generalize ofSz key 8 = r at *
  go_enter Try.func99, Try.ntmps99
  go_wp2_with (fail)
  with_reducible refine (c1 _).mono ?_
  rintro e w1 ⟨rfl, rfl⟩
  go_wp2_with (fail)
  go_ret
  exact ⟨rfl, (Below.refl _ _).alloc (Nat.le_refl _) _⟩

theorem ft_done (mark : ByteArray) (w : World) :
    Calls Try.prog 115 #[.agg #[.string mark]] w fun e w' => e = .returned (.string (ofSz mark 20)) ∧ Below w.heap.size w w' := by
  have c1 := fun W => impl_ofsize mark 20 W
  generalize ofSz mark 20 = r at *
  go_enter Try.func115, Try.ntmps115
  go_wp2_with (fail)
  with_reducible refine (c1 _).mono ?_
  rintro e w1 ⟨rfl, rfl⟩
  go_wp2_with (fail)
  go_ret
  exact ⟨rfl, (Below.refl _ _).alloc (Nat.le_refl _) _⟩

theorem ft_close (key : ByteArray) (w : World) :
    Calls Try.prog 122 #[.agg #[.string key]] w fun e w' => e = .returned (.string (ofSz key 8)) ∧ Below w.heap.size w w' := by
  have c1 := fun W => impl_ofsize key 8 W
  generalize ofSz key 8 = r at *
  go_enter Try.func122, Try.ntmps122
  go_wp2_with (fail)
  with_reducible refine (c1 _).mono ?_
  rintro e w1 ⟨rfl, rfl⟩
  go_wp2_with (fail)
  go_ret
  exact ⟨rfl, (Below.refl _ _).alloc (Nat.le_refl _) _⟩

theorem ft_fail (seq : Int) (w : World) :
    Calls Try.prog 121 #[.agg #[.int .i64 seq]] w fun e w' => e = .returned (.string (numText seq 6)) ∧ Below w.heap.size w w' := by
  have c1 := fun W => impl_numText seq 6 W
  generalize numText seq 6 = r at *
  go_enter Try.func121, Try.ntmps121
  go_wp2_with (fail)
  with_reducible refine (c1 _).mono ?_
  rintro e w1 ⟨rfl, hb⟩
  go_wp2_with (fail)
  go_ret
  exact ⟨rfl, ((Below.refl _ _).alloc (Nat.le_refl _) _).trans (hb.mono (by simp))⟩
end Go.Proofs.Ytkpajakangaekab
