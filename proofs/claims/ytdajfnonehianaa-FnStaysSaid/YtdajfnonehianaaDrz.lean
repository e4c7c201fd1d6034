import Derived.Test.YtdajfnonehianaaDry
namespace Go.Proofs.Ytdajfnonehianaa
open Go.RowKit

/-- The running number of a new cursor, behind k bytes. -/
def hashN (bs : List Nat) : Nat → Int
  | 0 => 94701 + (bs.length : Int)
  | k + 1 => bits .and .i64 (wrap64 (wrap64 (wrap64 (hashN bs k * 131) + (bs.getD k 0 : Int)) + 7)) 1073741823
/-- A new cursor's state. -/
def newS (bs : List Nat) : St := ⟨bs, 0, hashN bs (min bs.length 4000)⟩
theorem newS_ok (bs : List Nat) (hlt : ∀ x ∈ bs, x < 256) (hn : bs.length ≤ 1048576) : StOk (newS bs) := ⟨hlt, hn, Nat.zero_le _⟩

theorem RdN.lt {W : World} {v : Value} {bs : List Nat} (hv : RdN W v bs) : ∀ a c k, 0 < k → v = .slice a k c → ∀ ad, a = some ad → ad.block < W.heap.size := by
  obtain ⟨a, c, rfl, hvv⟩ := hv
  intro a' c' k h0 he ad ha
  injection he with e1 e2 e3
  subst e1 e2 e3
  obtain ⟨b, off, e, hc⟩ := hvv h0
  rw [ha] at e
  obtain rfl := Option.some.inj e
  exact World.block_lt_of_cell? _ _ (hc 0 h0)

/-- What can be read are some bytes. -/
theorem RdB.bytes {W : World} {v : Value} {n : Nat} (h : RdB W v n) : ∃ bs : List Nat, bs.length = n ∧ (∀ x ∈ bs, x < 256) ∧ RdN W v bs := by
  obtain ⟨a, c, rfl, hc⟩ := h
  by_cases h0 : 0 < n
  · obtain ⟨b, off, rfl, hx⟩ := hc h0
    have hx' : ∀ j : Fin n, ∃ x : Nat, x < 256 ∧ W.cell? ⟨b, off + j, none⟩ = some (.int .u8 (x : Int)) := fun j => hx j j.2
    refine ⟨List.ofFn fun j : Fin n => Classical.choose (hx' j), by simp, fun x hxm => ?_, ⟨some ⟨b, off, none⟩, c, by simp, fun _ => ⟨b, off, rfl, fun j hj => ?_⟩⟩⟩
    · obtain ⟨j, rfl⟩ := List.mem_ofFn.1 hxm
      exact (Classical.choose_spec (hx' j)).1
    · rw [List.getElem_ofFn]
      exact (Classical.choose_spec (hx' ⟨j, by simpa using hj⟩)).2
  · obtain rfl : n = 0 := by omega
    exact ⟨[], rfl, fun x h => (by cases h), ⟨a, c, rfl, fun h => absurd h (by simp)⟩⟩

set_option maxHeartbeats 1000000 in
set_option maxRecDepth 100000 in
theorem new_f (v : Value) (bs : List Nat) (w : World) (hv : RdN w v bs) (hlt : ∀ x ∈ bs, x < 256) (hn : bs.length ≤ 1048576) :
    Calls Try.prog 35 #[v] w fun e w' => e = .returned (.pointer (some ⟨w.heap.size, 0, none⟩)) ∧ DrX w' w.heap.size v (newS bs) ∧ Below w.heap.size w w' := by
  have hvl := hv.lt
  have hv0 := hv
  obtain ⟨a, c, rfl, hcell⟩ := hv
  have hend : ∀ (d : Nat) (k : Nat) (z : Int), z = hashN bs k → k = min bs.length 4000 →
      DrX ((w.drewN d).alloc (.cells #[.slice a bs.length c, .int .i64 0, .int .i64 z] 72)) w.heap.size (.slice a bs.length c) (newS bs) ∧ Below w.heap.size w ((w.drewN d).alloc (.cells #[.slice a bs.length c, .int .i64 0, .int .i64 z] 72)) := fun d k z hz hk => by
    have hb : Below w.heap.size w ((w.drewN d).alloc (.cells #[.slice a bs.length c, .int .i64 0, .int .i64 z] 72)) := (Below.alloc (w := w.drewN d) (show Below w.heap.size w (w.drewN d) from ⟨rfl, rfl, rfl, Nat.le_refl _, fun _ _ => rfl⟩) (Nat.le_refl _) _)
    refine ⟨⟨?_, hv0.below hb hvl, hvl⟩, hb⟩
    subst hz hk
    show ((w.drewN d).heap.push _)[w.heap.size]? = _
    rw [show w.heap.size = (w.drewN d).heap.size from rfl]
    simp [newS]
  have HE := Lib.hid hend
  have e0 : IntKind.i64.wrap (94701 + (bs.length : Int)) = 94701 + (bs.length : Int) := IntWalk.i64_in _ (by omega)
  clear hend hv0 hvl
  go_enter Try.func35, Try.ntmps35
  go_wp2_with (fail)
  go_loopw [3, 4] (fun m i wr => ∃ (k : Nat) (z : Int) (d : Nat), k ≤ bs.length ∧ k ≤ 4000 ∧ Hid (z = hashN bs k) ∧ m = .int .i64 z ∧ i = .int .i64 k ∧ wr = w.drewN d) (fun _ i _ => 5000 - (intOf i).toNat)
  case atStart => exact ⟨0, _, 0, by omega, by omega, Lib.hid rfl, rfl, rfl, rfl⟩
  case round =>
    obtain ⟨k, z, d, hk, hk4, hz, rfl, rfl, rfl⟩ := hrel
    by_cases h1 : k < bs.length
    · have q1 : (k : Int) < (bs.length : Int) := by omega
      by_cases h2 : k < 4000
      · have q2 : (k : Int) < 4000 := by omega
        obtain ⟨b, off, rfl, hcc⟩ := hcell (by omega)
        have hcx := hcc k h1
        have hx := hlt bs[k] (List.getElem_mem h1)
        have hg : bs.getD k 0 = bs[k] := by simp [List.getD_eq_getElem?_getD, h1]
        have hs : hashN bs (k + 1) = bits .and .i64 (wrap64 (wrap64 (wrap64 (z * 131) + (bs[k] : Int)) + 7)) 1073741823 := by rw [hz.out, ← hg]; rfl
        have HS := Lib.hid hs
        clear hs hg hz
        generalize bs[k] = x at *
        have q0 : (0 : Int) ≤ (k : Int) := by omega
        clear hcell hcc
        go_wp2_with (fail)
        go_roundw
        case rel => exact ⟨k + 1, _, d, by omega, by omega, Lib.hid HS.out.symm, rfl, by go_num, rfl⟩
        case measure => simp [intOf]; omega
      · have q2 : ¬ (k : Int) < 4000 := by omega
        go_wp2_with (fail)
        go_ret
        exact ⟨rfl, HE.out d k z hz.out (by omega)⟩
    · have q1 : ¬ (k : Int) < (bs.length : Int) := by omega
      go_wp2_with (fail)
      go_ret
      exact ⟨rfl, HE.out d k z hz.out (by omega)⟩

set_option maxHeartbeats 1000000 in
/-- One of a list of numbers. -/
theorem pick_f (s : St) (hs : StOk s) (zs : List Int) (h0 : 0 < zs.length) (hl : zs.length ≤ 256) (w : World) (g : Nat) (v : Value) (hd : DrX w g v s) (b cap : Nat) (hc : Cel w b 3 (zs.map (Value.int .i64)).toArray) (hb : b ≠ g) :
    Calls Try.prog 37 #[.pointer (some ⟨g, 0, none⟩), .slice (some ⟨b, 0, none⟩) zs.length cap] w fun e w' => e = .returned (.int .i64 (zs.getD (byteR s % zs.length) 0)) ∧ DrX w' g v (byteS s) ∧ Only g w w' := by
  have cb := (below_f s hs zs.length h0 hl).2.2 w g v hd
  have hr : byteR s % zs.length < zs.length := Nat.mod_lt _ h0
  generalize byteR s % zs.length = r at *
  generalize byteS s = s1 at *
  have hz : zs.getD r 0 = zs[r] := by simp [List.getD_eq_getElem?_getD, hr]
  rw [hz]
  clear hz
  go_enter Try.func37, Try.ntmps37
  go_wp2_with (fail)
  with_reducible refine cb.mono ?_
  rintro e w1 ⟨rfl, d1, o1⟩
  have hcell : w1.cell? ⟨b, r, none⟩ = some (.int .i64 (zs[r]'hr)) := by
    rw [(hc.only o1 hb).cell r]
    simp [hr]
  have q : (r : Int) < (zs.length : Int) := by omega
  have q0 : (0 : Int) ≤ (r : Int) := by omega
  go_wp2_with (fail)
  go_ret
  exact ⟨rfl, d1, o1⟩
end Go.Proofs.Ytdajfnonehianaa
