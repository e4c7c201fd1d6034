import Derived.Test.YtdajfnonehianaaDr
import Derived.Lib.Hide
namespace Go.Proofs.Ytdajfnonehianaa
open Go.RowKit

/-- A cursor's state: the bytes, the place, the running number. -/
structure St where
  bs : List Nat
  i : Nat
  h : Int

/-- A slice of these bytes. -/
def RdN (W : World) (v : Value) (bs : List Nat) : Prop :=
  ∃ a c, v = .slice a bs.length c ∧ (0 < bs.length → ∃ b off, a = some ⟨b, off, none⟩ ∧ ∀ j (hj : j < bs.length), W.cell? ⟨b, off + j, none⟩ = some (.int .u8 (bs[j] : Int)))

/-- A state that is one. -/
structure StOk (s : St) : Prop where
  lt : ∀ x ∈ s.bs, x < 256
  small : s.bs.length ≤ 1048576
  i : s.i ≤ s.bs.length

/-- Block g is a cursor in the state s over the slice v, which lies below it. -/
structure DrX (W : World) (g : Nat) (v : Value) (s : St) : Prop where
  cur : W.heap[g]? = some (.cells #[v, .int .i64 (s.i : Int), .int .i64 s.h] 72 (0, 0))
  rd : RdN W v s.bs
  lt : ∀ a c k, 0 < k → v = .slice a k c → ∀ ad, a = some ad → ad.block < g

theorem RdN.below {W W' : World} {v : Value} {bs : List Nat} {B : Nat} (hv : RdN W v bs) (hb : Below B W W') (hlt : ∀ a c k, 0 < k → v = .slice a k c → ∀ ad, a = some ad → ad.block < B) : RdN W' v bs := by
  obtain ⟨a, c, rfl, hvv⟩ := hv
  refine ⟨a, c, rfl, fun h0 => ?_⟩
  obtain ⟨b, off, rfl, hc⟩ := hvv h0
  refine ⟨b, off, rfl, fun j hj => ?_⟩
  rw [hb.cell (p := ⟨b, off + j, none⟩) (show b < B from hlt _ _ _ h0 rfl ⟨b, off, none⟩ rfl)]
  exact hc j hj

theorem DrX.below {W W' : World} {g B : Nat} {v : Value} {s : St} (h : DrX W g v s) (hb : Below B W W') (hg : g < B) : DrX W' g v s :=
  ⟨by rw [hb.block g hg]; exact h.cur, h.rd.below hb (fun a c k h0 he ad ha => by have := h.lt a c k h0 he ad ha; omega), h.lt⟩

theorem DrX.blk {W : World} {g : Nat} {v : Value} {s : St} (h : DrX W g v s) : g < W.heap.size := (Array.getElem?_eq_some_iff.1 h.cur).1

theorem DrX.turn {W W' : World} {g : Nat} {v : Value} {s : St} (h : DrX W g v s) (ho : Only g W W') (s' : St) (hs : s'.bs = s.bs) (hc : W'.heap[g]? = some (.cells #[v, .int .i64 (s'.i : Int), .int .i64 s'.h] 72 (0, 0))) : DrX W' g v s' :=
  ⟨hc, by rw [hs]; exact h.rd.below ho.bl h.lt, h.lt⟩

/-- What a draw answers is the state's alone: r, and the next state. -/
def Draws (f : FuncId) (s : St) (args : Nat → Array Value) (r : Value) (s' : St) : Prop :=
  StOk s' ∧ s'.bs = s.bs ∧ ∀ w g v, DrX w g v s → Calls Try.prog f (args g) w fun e w' => e = .returned r ∧ DrX w' g v s' ∧ Only g w w'

set_option maxHeartbeats 2000000 in
set_option maxRecDepth 100000 in
theorem byte_x (s : St) (hs : StOk s) : ∃ (r : Nat) (s' : St), r ≤ 255 ∧ Draws 62 s (fun g => #[.pointer (some ⟨g, 0, none⟩)]) (.int .i64 (r : Int)) s' := by
  obtain ⟨bs, i, h⟩ := s
  obtain ⟨hlt, hsm, hi⟩ := hs
  simp only at hlt hsm hi
  obtain ⟨H, hH⟩ : ∃ H, H = wrap64 (wrap64 (h * 6364136223846793005) + 1442695040888963407) := ⟨_, rfl⟩
  have hX := and_le (bits .xor .i64 (H / 8589934592) (H / 35184372088832)) 255 (by decide)
  rw [show ((255 : Nat) : Int) = (255 : Int) from rfl] at hX
  obtain ⟨r, hr⟩ := Int.eq_ofNat_of_zero_le hX.1
  have hr0 : r ≤ 255 := by omega
  have HX := Lib.hid hr
  have HH := Lib.hid hH
  clear hX hr hH
  by_cases hin : i < bs.length
  · have hx := hlt bs[i] (List.getElem_mem hin)
    obtain ⟨x, hxe⟩ : ∃ x, x = bs[i] := ⟨_, rfl⟩
    have hX2 := and_le ((r : Int) + (x : Int)) 255 (by decide)
    rw [show ((255 : Nat) : Int) = (255 : Int) from rfl] at hX2
    obtain ⟨r', hr'⟩ := Int.eq_ofNat_of_zero_le hX2.1
    have hr2 : r' ≤ 255 := by omega
    have HX2 := Lib.hid hr'
    have Hxe := Lib.hid hxe
    rw [← hxe] at hx
    clear hX2 hr' hxe
    refine ⟨r', ⟨bs, i + 1, H⟩, hr2, ⟨hlt, hsm, by simp only; omega⟩, rfl, fun w g v hd => ?_⟩
    have hg := hd.lt
    obtain ⟨hb, ⟨a, c, rfl, hcell⟩, hdl⟩ := hd
    simp only at hb hcell
    have c0 : w.cell? ⟨g, 0, none⟩ = some (.slice a bs.length c) := by rw [cell_of_row _ _ _ _ _ _ hb]; rfl
    have c1 : w.cell? ⟨g, 1, none⟩ = some (.int .i64 (i : Int)) := by rw [cell_of_row _ _ _ _ _ _ hb]; rfl
    have c2 : w.cell? ⟨g, 2, none⟩ = some (.int .i64 h) := by rw [cell_of_row _ _ _ _ _ _ hb]; rfl
    have hf : ∀ j, w.frozen? ⟨g, j, none⟩ = false := fun j => by simp [World.frozen?, hb]
    go_enter Try.func62, Try.ntmps62
    go_wp2_with (fail)
    rw [← HH.out]
    have hb1 : (w.setCell ⟨g, 2, none⟩ (.int .i64 H)).heap[g]? = some (.cells #[.slice a bs.length c, .int .i64 (i : Int), .int .i64 H] 72 (0, 0)) := by
      show (w.heap.modify g _)[g]? = _
      rw [Array.getElem?_modify, if_pos rfl, hb]
      rfl
    have hO1 : Only g w (w.setCell ⟨g, 2, none⟩ (.int .i64 H)) := ⟨Below.setCell (p := ⟨g, 2, none⟩) (Below.refl g w) (Nat.le_refl g) _, by simp, fun k hk => Below.heap_setCell _ _ _ _ hk⟩
    clear c0 c1 c2 hf hb
    generalize w.setCell ⟨g, 2, none⟩ (.int .i64 H) = W1 at hb1 hO1 ⊢
    have c0 : W1.cell? ⟨g, 0, none⟩ = some (.slice a bs.length c) := by rw [cell_of_row _ _ _ _ _ _ hb1]; rfl
    have c1 : W1.cell? ⟨g, 1, none⟩ = some (.int .i64 (i : Int)) := by rw [cell_of_row _ _ _ _ _ _ hb1]; rfl
    have c2 : W1.cell? ⟨g, 2, none⟩ = some (.int .i64 H) := by rw [cell_of_row _ _ _ _ _ _ hb1]; rfl
    have hf : ∀ j, W1.frozen? ⟨g, j, none⟩ = false := fun j => by simp [World.frozen?, hb1]
    go_quiet (fail)
    revert nq
    intro m1
    go_wp2_with (fail)
    rw [HX.out]
    have hb2 : (W1.drewN m1).heap[g]? = some (.cells #[.slice a bs.length c, .int .i64 (i : Int), .int .i64 H] 72 (0, 0)) := hb1
    have hO2 : Only g w (W1.drewN m1) := ⟨⟨hO1.bl.os, hO1.bl.tape, hO1.bl.output, hO1.bl.size, hO1.bl.block⟩, hO1.size, hO1.at_⟩
    clear c0 c1 c2 hf hb1 hO1
    generalize W1.drewN m1 = W2 at hb2 hO2 ⊢
    have c0 : W2.cell? ⟨g, 0, none⟩ = some (.slice a bs.length c) := by rw [cell_of_row _ _ _ _ _ _ hb2]; rfl
    have c1 : W2.cell? ⟨g, 1, none⟩ = some (.int .i64 (i : Int)) := by rw [cell_of_row _ _ _ _ _ _ hb2]; rfl
    have hf : ∀ j, W2.frozen? ⟨g, j, none⟩ = false := fun j => by simp [World.frozen?, hb2]
    obtain ⟨b, off, rfl, hcc⟩ := hcell (by omega)
    have hcx := hcc i hin
    rw [← Hxe.out] at hcx
    have hbg : b ≠ g := Nat.ne_of_lt (hg _ _ bs.length (by omega) rfl ⟨b, off, none⟩ rfl)
    have hcx2 : W2.cell? ⟨b, off + i, none⟩ = some (.int .u8 (x : Int)) := by
      rw [← hcx]
      simp only [World.cell?, hO2.at_ b hbg]
    clear hcx
    have q : (i : Int) < (bs.length : Int) := by omega
    have q0 : (0 : Int) ≤ (i : Int) := by omega
    have e1 : IntKind.i64.wrap ((r : Int) + (x : Int)) = (r : Int) + (x : Int) := IntWalk.i64_in _ (by omega)
    have e2 : IntKind.i64.wrap (x : Int) = (x : Int) := IntWalk.i64_in _ (by omega)
    have e3 : IntKind.i64.wrap ((i : Int) + 1) = (i : Int) + 1 := IntWalk.i64_in _ (by omega)
    go_quiet (fail)
    revert nq
    intro m2
    go_wp2_with (fail)
    go_quiet (fail)
    revert nq
    intro m3
    go_wp2_with (fail)
    rw [HX2.out]
    go_ret
    have hOf : Only g w ((W2.drewN (m2 + m3)).setCell ⟨g, 1, none⟩ (.int .i64 ((i : Int) + 1))) := ⟨Below.setCell (p := ⟨g, 1, none⟩) (show Below g w (W2.drewN (m2 + m3)) from ⟨hO2.bl.os, hO2.bl.tape, hO2.bl.output, hO2.bl.size, hO2.bl.block⟩) (Nat.le_refl g) _, by rw [World.size_setCell]; exact hO2.size, fun k hk => by rw [Below.heap_setCell _ _ _ _ hk]; exact hO2.at_ k hk⟩
    refine ⟨rfl, ⟨?_, RdN.below (B := g) ⟨_, c, rfl, fun _ => ⟨b, off, rfl, hcc⟩⟩ hOf.bl hdl, hdl⟩, hOf⟩
    show ((W2.drewN (m2 + m3)).heap.modify g _)[g]? = _
    rw [Array.getElem?_modify, if_pos rfl, show (W2.drewN (m2 + m3)).heap[g]? = _ from hb2]
    rfl
  · refine ⟨r, ⟨bs, i, H⟩, hr0, ⟨hlt, hsm, hi⟩, rfl, fun w g v hd => ?_⟩
    have hg := hd.lt
    obtain ⟨hb, ⟨a, c, rfl, hcell⟩, hdl⟩ := hd
    simp only at hb hcell
    have c0 : w.cell? ⟨g, 0, none⟩ = some (.slice a bs.length c) := by rw [cell_of_row _ _ _ _ _ _ hb]; rfl
    have c1 : w.cell? ⟨g, 1, none⟩ = some (.int .i64 (i : Int)) := by rw [cell_of_row _ _ _ _ _ _ hb]; rfl
    have c2 : w.cell? ⟨g, 2, none⟩ = some (.int .i64 h) := by rw [cell_of_row _ _ _ _ _ _ hb]; rfl
    have hf : ∀ j, w.frozen? ⟨g, j, none⟩ = false := fun j => by simp [World.frozen?, hb]
    go_enter Try.func62, Try.ntmps62
    go_wp2_with (fail)
    rw [← HH.out]
    have hb1 : (w.setCell ⟨g, 2, none⟩ (.int .i64 H)).heap[g]? = some (.cells #[.slice a bs.length c, .int .i64 (i : Int), .int .i64 H] 72 (0, 0)) := by
      show (w.heap.modify g _)[g]? = _
      rw [Array.getElem?_modify, if_pos rfl, hb]
      rfl
    have hO1 : Only g w (w.setCell ⟨g, 2, none⟩ (.int .i64 H)) := ⟨Below.setCell (p := ⟨g, 2, none⟩) (Below.refl g w) (Nat.le_refl g) _, by simp, fun k hk => Below.heap_setCell _ _ _ _ hk⟩
    clear c0 c1 c2 hf hb
    generalize w.setCell ⟨g, 2, none⟩ (.int .i64 H) = W1 at hb1 hO1 ⊢
    have c0 : W1.cell? ⟨g, 0, none⟩ = some (.slice a bs.length c) := by rw [cell_of_row _ _ _ _ _ _ hb1]; rfl
    have c1 : W1.cell? ⟨g, 1, none⟩ = some (.int .i64 (i : Int)) := by rw [cell_of_row _ _ _ _ _ _ hb1]; rfl
    have c2 : W1.cell? ⟨g, 2, none⟩ = some (.int .i64 H) := by rw [cell_of_row _ _ _ _ _ _ hb1]; rfl
    have hf : ∀ j, W1.frozen? ⟨g, j, none⟩ = false := fun j => by simp [World.frozen?, hb1]
    go_quiet (fail)
    revert nq
    intro m1
    go_wp2_with (fail)
    rw [HX.out]
    have hb2 : (W1.drewN m1).heap[g]? = some (.cells #[.slice a bs.length c, .int .i64 (i : Int), .int .i64 H] 72 (0, 0)) := hb1
    have hO2 : Only g w (W1.drewN m1) := ⟨⟨hO1.bl.os, hO1.bl.tape, hO1.bl.output, hO1.bl.size, hO1.bl.block⟩, hO1.size, hO1.at_⟩
    clear c0 c1 c2 hf hb1 hO1
    generalize W1.drewN m1 = W2 at hb2 hO2 ⊢
    have c0 : W2.cell? ⟨g, 0, none⟩ = some (.slice a bs.length c) := by rw [cell_of_row _ _ _ _ _ _ hb2]; rfl
    have c1 : W2.cell? ⟨g, 1, none⟩ = some (.int .i64 (i : Int)) := by rw [cell_of_row _ _ _ _ _ _ hb2]; rfl
    have hf : ∀ j, W2.frozen? ⟨g, j, none⟩ = false := fun j => by simp [World.frozen?, hb2]
    have q : ¬ ((i : Int) < (bs.length : Int)) := by omega
    go_quiet (fail)
    revert nq
    intro m2
    go_wp2_with (fail)
    go_ret
    have hOf : Only g w (W2.drewN m2) := ⟨⟨hO2.bl.os, hO2.bl.tape, hO2.bl.output, hO2.bl.size, hO2.bl.block⟩, hO2.size, hO2.at_⟩
    exact ⟨rfl, ⟨hb2, RdN.below (B := g) ⟨a, c, rfl, hcell⟩ hOf.bl hdl, hdl⟩, hOf⟩
end Go.Proofs.Ytdajfnonehianaa
