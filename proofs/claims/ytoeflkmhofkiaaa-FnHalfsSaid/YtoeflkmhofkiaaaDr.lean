import Derived.Test.YtoeflkmhofkiaaaDraw
namespace Go.Proofs.Ytoeflkmhofkiaaa
open Go.RowKit
set_option maxRecDepth 100000

set_option maxHeartbeats 1000000 in
set_option maxRecDepth 100000 in
theorem l01_new (v : Value) (n : Nat) (w : World) (hv : RdB w v n) (hn : n ≤ 1048576) :
    Calls Try.prog 42 #[v] w fun e w' => e = .returned (.pointer (some ⟨w.heap.size, 0, none⟩)) ∧ Cur w' w.heap.size v n ∧ Below w.heap.size w w' := by
  obtain ⟨a, c, rfl, hcell⟩ := hv
  have e0 : IntKind.i64.wrap (94701 + (n : Int)) = 94701 + (n : Int) := IntWalk.i64_in _ (by omega)
  go_enter Try.func42, Try.ntmps42
  go_wp2_with (fail)
  go_loopw [3, 4] (fun m i wr => ∃ (k : Nat) (z : Int) (d : Nat), k ≤ n ∧ k ≤ 4000 ∧ m = .int .i64 z ∧ i = .int .i64 k ∧ wr = w.drewN d) (fun _ i _ => 5000 - (intOf i).toNat)
  case atStart => exact ⟨0, _, 0, by omega, by omega, rfl, rfl, rfl⟩
  case round =>
    obtain ⟨k, z, d, hk, hk4, rfl, rfl, rfl⟩ := hrel
    by_cases h1 : k < n
    · have q1 : (k : Int) < (n : Int) := by omega
      by_cases h2 : k < 4000
      · have q2 : (k : Int) < 4000 := by omega
        obtain ⟨b, off, rfl, hcc⟩ := hcell (by omega)
        obtain ⟨x, hx, hcx⟩ := hcc k h1
        have q0 : (0 : Int) ≤ (k : Int) := by omega
        clear hcell hcc
        go_wp2_with (fail)
        go_roundw
        case rel => exact ⟨k + 1, _, d, by omega, by omega, rfl, by go_num, rfl⟩
        case measure => simp [intOf]; omega
      · have q2 : ¬ (k : Int) < 4000 := by omega
        go_wp2_with (fail)
        go_ret
        refine ⟨rfl, ⟨0, z, by omega, ?_⟩, (Below.alloc (w := w.drewN d) (show Below w.heap.size w (w.drewN d) from ⟨rfl, rfl, rfl, Nat.le_refl _, fun _ _ => rfl⟩) (Nat.le_refl _) _)⟩
        show ((w.drewN d).heap.push _)[w.heap.size]? = _
        rw [show w.heap.size = (w.drewN d).heap.size from rfl]
        simp
    · have q1 : ¬ (k : Int) < (n : Int) := by omega
      go_wp2_with (fail)
      go_ret
      refine ⟨rfl, ⟨0, z, by omega, ?_⟩, (Below.alloc (w := w.drewN d) (show Below w.heap.size w (w.drewN d) from ⟨rfl, rfl, rfl, Nat.le_refl _, fun _ _ => rfl⟩) (Nat.le_refl _) _)⟩
      show ((w.drewN d).heap.push _)[w.heap.size]? = _
      rw [show w.heap.size = (w.drewN d).heap.size from rfl]
      simp
theorem RdB.below {W W' : World} {v : Value} {n B : Nat} (hv : RdB W v n) (hb : Below B W W') (hlt : ∀ a c k, 0 < k → v = .slice a k c → ∀ ad, a = some ad → ad.block < B) : RdB W' v n := by
  obtain ⟨a, c, rfl, hvv⟩ := hv
  refine ⟨a, c, rfl, fun h0 => ?_⟩
  obtain ⟨b, off, rfl, hc⟩ := hvv h0
  refine ⟨b, off, rfl, fun j hj => ?_⟩
  obtain ⟨x, hx, hcx⟩ := hc j hj
  exact ⟨x, hx, by rw [hb.cell (p := ⟨b, off + j, none⟩) (show b < B from hlt _ _ n h0 rfl ⟨b, off, none⟩ rfl)]; exact hcx⟩

theorem Cur.below {W W' : World} {g : Nat} {v : Value} {n B : Nat} (h : Cur W g v n) (hb : Below B W W') (hg : g < B) : Cur W' g v n := by
  obtain ⟨i, z, hi, hh⟩ := h
  exact ⟨i, z, hi, by rw [hb.block g hg]; exact hh⟩


theorem RdB.lt {W : World} {v : Value} {n : Nat} (hv : RdB W v n) : ∀ a c k, 0 < k → v = .slice a k c → ∀ ad, a = some ad → ad.block < W.heap.size := by
  obtain ⟨a, c, rfl, hvv⟩ := hv
  intro a' c' k h0 he ad ha
  injection he with e1 e2 e3
  subst e1 e2 e3
  obtain ⟨b, off, e, hc⟩ := hvv h0
  rw [ha] at e
  obtain rfl := Option.some.inj e
  obtain ⟨x, _, hx⟩ := hc 0 h0
  exact World.block_lt_of_cell? _ _ hx

/-- Block g is a cursor over the slice v, which lies below it. -/
structure Dr (W : World) (g : Nat) (v : Value) (n : Nat) : Prop where
  cur : Cur W g v n
  rd : RdB W v n
  lt : ∀ a c k, 0 < k → v = .slice a k c → ∀ ad, a = some ad → ad.block < g
  small : n ≤ 1048576

theorem Dr.blk {W : World} {g : Nat} {v : Value} {n : Nat} (h : Dr W g v n) : g < W.heap.size := by
  obtain ⟨_, _, _, hh⟩ := h.cur
  exact (Array.getElem?_eq_some_iff.1 hh).1

theorem Dr.below {W W' : World} {g : Nat} {v : Value} {n B : Nat} (h : Dr W g v n) (hb : Below B W W') (hg : g < B) : Dr W' g v n :=
  ⟨h.cur.below hb hg, h.rd.below hb (fun a c k h0 he ad ha => by have := h.lt a c k h0 he ad ha; omega), h.lt, h.small⟩

theorem Dr.kept {W W' : World} {g : Nat} {v : Value} {n : Nat} (h : Dr W g v n) (hb : Below W.heap.size W W') : Dr W' g v n := h.below hb h.blk

theorem Dr.only {W W' : World} {g : Nat} {v : Value} {n : Nat} (h : Dr W g v n) (ho : Only g W W') (hc : Cur W' g v n) : Dr W' g v n :=
  ⟨hc, ho.rdB h.rd (fun a c k h0 he ad ha => by have := h.lt a c k h0 he ad ha; omega), h.lt, h.small⟩

theorem Only.below {g B : Nat} {a w w' : World} (ho : Only g w w') (h : Below B a w) (hB : B ≤ g) : Below B a w' := h.trans (ho.bl.mono hB)

theorem Only.refl (g : Nat) (w : World) : Only g w w := ⟨Below.refl g w, rfl, fun _ _ => rfl⟩

/-- A new cursor. -/
theorem new_dr (v : Value) (n : Nat) (w : World) (hv : RdB w v n) (hn : n ≤ 1048576) :
    Calls Try.prog 42 #[v] w fun e w' => e = .returned (.pointer (some ⟨w.heap.size, 0, none⟩)) ∧ Dr w' w.heap.size v n ∧ Below w.heap.size w w' :=
  (l01_new v n w hv hn).mono fun _ _ ⟨h1, h2, h3⟩ => ⟨h1, ⟨h2, hv.below h3 hv.lt, hv.lt, hn⟩, h3⟩

/-- The next byte of a cursor. -/
theorem byte_dr (g : Nat) (v : Value) (n : Nat) (w : World) (h : Dr w g v n) :
    Calls Try.prog 72 #[.pointer (some ⟨g, 0, none⟩)] w fun e w' => ∃ r : Nat, r ≤ 255 ∧ e = .returned (.int .i64 (r : Int)) ∧ Dr w' g v n ∧ Only g w w' :=
  (l01_byte g v n w h.cur h.rd h.small (fun a c k h0 he ad ha => by have := h.lt a c k h0 he ad ha; omega)).mono fun _ _ ⟨r, h1, h2, h3, h4⟩ => ⟨r, h1, h2, h.only h4 h3, h4⟩

theorem own_only {g B : Nat} {w w' : World} {v : Value} {n : Nat} {xs : List Value} (h : w.ownsRow B 3 1 v n xs) (ho : Only g w w') (hB : g < B) : w'.ownsRow B 3 1 v n xs := by
  obtain ⟨h1, h2⟩ := h
  refine ⟨h1, ?_⟩
  rcases h2 with h2 | ⟨g', cap, cur, hv, hg, hh, r⟩
  · exact .inl h2
  · refine .inr ⟨g', cap, cur, hv, hg, ?_, r⟩
    rw [ho.at_ g' (by omega)]
    exact hh


set_option maxHeartbeats 1000000 in
set_option maxRecDepth 100000 in
theorem below_big (g : Nat) (v : Value) (n k : Nat) (w : World) (hd : Dr w g v n) (hk : 256 < k) (hk2 : k ≤ 1000000000) :
    Calls Try.prog 65 #[.pointer (some ⟨g, 0, none⟩), .int .i64 (k : Int)] w fun e w' => ∃ r : Nat, r < k ∧ e = .returned (.int .i64 (r : Int)) ∧ Dr w' g v n ∧ Only g w w' := by
  have q1 : ¬ ((k : Int) ≤ 0) := by omega
  have q2 : ¬ ((k : Int) ≤ 256) := by omega
  go_enter Try.func65, Try.ntmps65
  go_wp2_with (fail)
  with_reducible refine (byte_dr g v n w hd).mono ?_
  rintro e w1 ⟨r1, h1, rfl, d1, o1⟩
  go_wp2_with (fail)
  with_reducible refine (byte_dr g v n w1 d1).mono ?_
  rintro e w2 ⟨r2, h2, rfl, d2, o2⟩
  go_wp2_with (fail)
  with_reducible refine (byte_dr g v n w2 d2).mono ?_
  rintro e w3 ⟨r3, h3, rfl, d3, o3⟩
  go_wp2_with (fail)
  with_reducible refine (byte_dr g v n w3 d3).mono ?_
  rintro e w4 ⟨r4, h4, rfl, d4, o4⟩
  have e1 : ((r1 : Int) * 16777216 + (r2 : Int) * 65536 + (r3 : Int) * 256 + (r4 : Int)).tmod (k : Int) = (((r1 * 16777216 + r2 * 65536 + r3 * 256 + r4) % k : Nat) : Int) := by
    rw [Int.tmod_eq_emod_of_nonneg (by omega), show ((r1 : Int) * 16777216 + (r2 : Int) * 65536 + (r3 : Int) * 256 + (r4 : Int)) = ((r1 * 16777216 + r2 * 65536 + r3 * 256 + r4 : Nat) : Int) by omega]
    exact (Int.natCast_emod _ _).symm
  have hlt : (r1 * 16777216 + r2 * 65536 + r3 * 256 + r4) % k < k := Nat.mod_lt _ (by omega)
  have e2 : ((r1 : Int) * 16777216 + (r2 : Int) * 65536 + (r3 : Int) * 256 + (r4 : Int)) % (k : Int) = (((r1 * 16777216 + r2 * 65536 + r3 * 256 + r4) % k : Nat) : Int) := by
    rw [← e1, Int.tmod_eq_emod_of_nonneg (by omega)]
  generalize (r1 * 16777216 + r2 * 65536 + r3 * 256 + r4) % k = q at e1 e2 hlt
  go_wp2_with (fail)
  go_ret
  refine ⟨q, hlt, ?_, d4, ((o1.trans o2).trans o3).trans o4⟩
  first | rfl | simp [e1] | simp [e2]

set_option maxHeartbeats 1000000 in
theorem below_small (g : Nat) (v : Value) (n k : Nat) (w : World) (hd : Dr w g v n) (h0 : 0 < k) (hk : k ≤ 256) :
    Calls Try.prog 65 #[.pointer (some ⟨g, 0, none⟩), .int .i64 (k : Int)] w fun e w' => ∃ r : Nat, r < k ∧ e = .returned (.int .i64 (r : Int)) ∧ Dr w' g v n ∧ Only g w w' := by
  have q1 : ¬ ((k : Int) ≤ 0) := by omega
  have q2 : ((k : Int) ≤ 256) := by omega
  go_enter Try.func65, Try.ntmps65
  go_wp2_with (fail)
  with_reducible refine (byte_dr g v n w hd).mono ?_
  rintro e w1 ⟨r1, h1, rfl, d1, o1⟩
  have e1 : (r1 : Int).tmod (k : Int) = ((r1 % k : Nat) : Int) := by
    rw [Int.tmod_eq_emod_of_nonneg (by omega)]
    exact (Int.natCast_emod _ _).symm
  have e2 : (r1 : Int) % (k : Int) = ((r1 % k : Nat) : Int) := (Int.natCast_emod _ _).symm
  have hlt : r1 % k < k := Nat.mod_lt _ (by omega)
  generalize r1 % k = q at e1 e2 hlt
  go_wp2_with (fail)
  go_ret
  refine ⟨q, hlt, ?_, d1, o1⟩
  first | rfl | simp [e1] | simp [e2]

theorem below_zero (g : Nat) (k : Int) (w : World) (h0 : k ≤ 0) :
    Calls Try.prog 65 #[.pointer (some ⟨g, 0, none⟩), .int .i64 k] w fun e w' => e = .returned (.int .i64 0) ∧ w = w' := by
  go_enter Try.func65, Try.ntmps65
  go_wp2_with (fail)
  go_ret
  exact ⟨rfl, rfl⟩

/-- A number below k. -/
theorem below_dr (g : Nat) (v : Value) (n k : Nat) (w : World) (hd : Dr w g v n) (h0 : 0 < k) (hk : k ≤ 1000000000) :
    Calls Try.prog 65 #[.pointer (some ⟨g, 0, none⟩), .int .i64 (k : Int)] w fun e w' => ∃ r : Nat, r < k ∧ e = .returned (.int .i64 (r : Int)) ∧ Dr w' g v n ∧ Only g w w' := by
  by_cases h : k ≤ 256
  · exact below_small g v n k w hd h0 h
  · exact below_big g v n k w hd (by omega) hk
end Go.Proofs.Ytoeflkmhofkiaaa
