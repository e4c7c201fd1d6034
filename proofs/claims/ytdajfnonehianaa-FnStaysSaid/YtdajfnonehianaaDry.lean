import Derived.Test.YtdajfnonehianaaDrx
import Derived.Test.YtdajfnonehianaaDrT
namespace Go.Proofs.Ytdajfnonehianaa
open Go.RowKit

noncomputable def byteR (s : St) : Nat := open Classical in if h : StOk s then Classical.choose (byte_x s h) else 0
noncomputable def byteS (s : St) : St := open Classical in if h : StOk s then Classical.choose (Classical.choose_spec (byte_x s h)) else s
theorem byte_f (s : St) (hs : StOk s) : byteR s ≤ 255 ∧ Draws 62 s (fun g => #[.pointer (some ⟨g, 0, none⟩)]) (.int .i64 (byteR s : Int)) (byteS s) := by
  unfold byteR byteS
  rw [dif_pos hs, dif_pos hs]
  exact Classical.choose_spec (Classical.choose_spec (byte_x s hs))
theorem byte_ok {s : St} (hs : StOk s) : StOk (byteS s) := (byte_f s hs).2.1

set_option maxHeartbeats 1000000 in
/-- A number below k: the byte's rest. -/
theorem below_f (s : St) (hs : StOk s) (k : Nat) (h0 : 0 < k) (hk : k ≤ 256) : Draws 38 s (fun g => #[.pointer (some ⟨g, 0, none⟩), .int .i64 (k : Int)]) (.int .i64 ((byteR s % k : Nat) : Int)) (byteS s) := by
  obtain ⟨hr, h1, h2, h3⟩ := byte_f s hs
  refine ⟨h1, h2, fun w g v hd => ?_⟩
  have cB := h3 w g v hd
  have q1 : ¬ ((k : Int) ≤ 0) := by omega
  have q2 : ((k : Int) ≤ 256) := by omega
  have e1 : (byteR s : Int).tmod (k : Int) = ((byteR s % k : Nat) : Int) := by
    rw [Int.tmod_eq_emod_of_nonneg (by omega)]
    exact (Int.natCast_emod _ _).symm
  have e2 : (byteR s : Int) % (k : Int) = ((byteR s % k : Nat) : Int) := (Int.natCast_emod _ _).symm
  generalize byteR s = r1 at *
  generalize byteS s = s1 at *
  generalize r1 % k = q at e1 e2 ⊢
  clear h1 h2 h3 hd
  go_enter Try.func38, Try.ntmps38
  go_wp2_with (fail)
  with_reducible refine cB.mono ?_
  rintro e w1 ⟨rfl, d1, o1⟩
  clear cB
  go_wp2_with (fail)
  go_ret
  refine ⟨?_, d1, o1⟩
  first | rfl | simp [e1] | simp [e2]

/-- k bytes, one behind the other. -/
noncomputable def textL (s : St) : Nat → List UInt8 × St
  | 0 => ([], s)
  | k + 1 => ((textL s k).1 ++ [UInt8.ofNat (byteR (textL s k).2)], byteS (textL s k).2)
theorem textL_length (s : St) (k : Nat) : (textL s k).1.length = k := by
  induction k with
  | zero => rfl
  | succ k ih => simp [textL, ih]
theorem textL_ok {s : St} (hs : StOk s) (k : Nat) : StOk (textL s k).2 := by
  induction k with
  | zero => exact hs
  | succ k ih => exact byte_ok ih
theorem textL_bs {s : St} (hs : StOk s) (k : Nat) : (textL s k).2.bs = s.bs := by
  induction k with
  | zero => rfl
  | succ k ih => exact (byte_f _ (textL_ok hs k)).2.2.1.trans ih
noncomputable def textT (s : St) (k : Nat) : ByteArray := ⟨(textL s k).1.toArray⟩
theorem textT_size (s : St) (k : Nat) : (textT s k).size = k := by show (textL s k).1.toArray.size = k; simp [textL_length]

/-- A draw that makes memory of its own. -/
def DrawsG (f : FuncId) (s : St) (args : Nat → Array Value) (r : Value) (s' : St) : Prop :=
  StOk s' ∧ s'.bs = s.bs ∧ ∀ w g v, DrX w g v s → Calls Try.prog f (args g) w fun e w' => e = .returned r ∧ DrX w' g v s' ∧ Grew g w w'

set_option maxHeartbeats 1000000 in
theorem text_f (s : St) (hs : StOk s) (k : Nat) (hk : k ≤ 5000) : DrawsG 39 s (fun g => #[.pointer (some ⟨g, 0, none⟩), .int .i64 (k : Int)]) (.string (textT s k)) (textL s k).2 := by
  refine ⟨textL_ok hs k, textL_bs hs k, fun w g v hd => ?_⟩
  obtain ⟨i0, hi, hz0, hz1, hz2⟩ := info_parts info5
  have q : ¬ (5000 : Int) < (k : Int) := by omega
  have hgw := hd.blk
  have ho := World.ownsRow_made w (e := 5) (size := 1) (base := w.heap.size) #[] 0 (Nat.le_refl _) (by unfold maxLen; omega) rfl
  have hd0 := hd.below (below_new w (.cells #[] 5)) hgw
  have hG : Grew g w (w.alloc (.cells #[] 5)) := Grew.of_below (below_new w (.cells #[] 5)) (Nat.le_refl _)
  go_enter Try.func39, Try.ntmps39
  go_wp2_with (fail)
  go_loopw [5, 6] (fun u i wr => ∃ (j gg cap : Nat), j ≤ k ∧ i = .int .i64 j ∧ u = .slice (some ⟨gg, 0, none⟩) j cap ∧ wr.ownsRow w.heap.size 5 1 (.slice (some ⟨gg, 0, none⟩) j cap) j ((textL s j).1.map cb) ∧ DrX wr g v (textL s j).2 ∧ Grew g w wr) (fun _ i _ => k - (intOf i).toNat)
  case atStart => exact ⟨0, w.heap.size, 0, by omega, rfl, rfl, by simpa [textL] using ho, hd0, hG⟩
  case round =>
    clear ho hd0 hG
    obtain ⟨j, gg, cap, hj, rfl, rfl, hown, hd1, hG⟩ := hrel
    by_cases hlt : j < k
    · have q1 : (j : Int) < (k : Int) := by omega
      obtain ⟨hr, hb1, hb2, hb3⟩ := byte_f _ (textL_ok hs j)
      have cb1 := hb3 wr g v hd1
      have hT : (textL s (j + 1)).1 = (textL s j).1 ++ [UInt8.ofNat (byteR (textL s j).2)] := rfl
      have hS : (textL s (j + 1)).2 = byteS (textL s j).2 := rfl
      have hl := textL_length s j
      rw [← hS] at cb1
      obtain ⟨s2, hs2e⟩ : ∃ s2, s2 = (textL s (j + 1)).2 := ⟨_, rfl⟩
      rw [← hs2e] at cb1
      have HS2 := Lib.hid hs2e
      generalize byteR (textL s j).2 = r at *
      generalize (textL s j).1 = l at *
      have HT := Lib.hid hT
      clear hb1 hb2 hb3 hS hT hs2e
      go_wp2_with (fail)
      with_reducible refine cb1.mono ?_
      rintro e w2 ⟨rfl, d2, o2⟩
      have hown2 := own_only2 hown o2 hgw
      have hG2 := hG.trans o2.grew
      have hs2 := hG2.size
      obtain ⟨c, hc0⟩ : ∃ c : UInt8, c = UInt8.ofNat r := ⟨_, rfl⟩
      have hc : (r : Int) % 256 = (c.toNat : Int) := by rw [hc0]; simp
      have hw : IntKind.u8.wrap (r : Int) = (c.toNat : Int) := by rw [IntKind.wrap_u8', hc]
      have HC := Lib.hid hc0
      clear hown hG cb1 o2 hc0 hc
      go_wp2_with (at_builtin; refine wpList_append_own _ rfl _ _ 22 rfl w.heap.size 5 i0 (.int .u8 0) 1 1 Try.underlying22 hi hz0 hz1 hz2 rfl (by decide) _ _ _ rfl (hown2.alloc _) ⟨w2.heap.size, 0, none⟩ 1 1 [cb c] rfl rfl ?c1 ?c2 ?c3 ?c4 ?c5 ?_)
      case c1 =>
        intro i u hi
        match i, hi with
        | 0, hi => simp at hi; subst hi; simp [Addr.add, cb]
      case c2 => intro u hu; simp at hu; subst hu; rfl
      case c3 => unfold maxLen; omega
      case c4 => omega
      case c5 => simp; omega
      intro v' w3 hown3 hgrow _
      have hb3 : Below w.heap.size w2 w3 := ((Below.refl w.heap.size w2).alloc (by omega) _).grown hgrow (by simp; omega) (fun i hi => (hown2.lt i hi).1)
      have d3 := d2.below hb3 hgw
      have hG3 : Grew g w w3 := ⟨hb3.os.trans hG2.os, hb3.tape.trans hG2.tape, hb3.output.trans hG2.output, Nat.le_trans hG2.size hb3.size, fun i hi hn => (hb3.block i hi).trans (hG2.block i hi hn)⟩
      obtain ⟨g', cap', rfl⟩ : ∃ g cap, v' = .slice (some ⟨g, 0, none⟩) (j + 1) cap := by
        rcases hown3.2 with ⟨_, h0⟩ | ⟨g, cap, cur, hv, _⟩
        · omega
        · exact ⟨g, cap, hv⟩
      have e5 : l.map cb ++ [cb c] = (textL s (j + 1)).1.map cb := by rw [HT.out, HC.out]; simp
      rw [e5] at hown3
      clear hown2 d2 hG2 hb3 hgrow e5
      go_wp2_with (fail)
      go_roundw
      case rel => exact ⟨j + 1, g', cap', by omega, by go_num, rfl, hown3, by rw [← HS2.out]; exact d3, hG3⟩
      case measure => simp [intOf]; omega
    · obtain rfl : j = k := by omega
      have q1 : ¬ ((j : Int) < (j : Int)) := by omega
      have hl := textL_length s j
      have hcv : (convert 22 9 (.slice (some ⟨gg, 0, none⟩) j cap)).run Try.prog wr = .ok (.string (textT s j)) wr := conv_row (by rw [hl]; exact hown) hl
      obtain ⟨tt, htt⟩ : ∃ tt, tt = textT s j := ⟨_, rfl⟩
      rw [← htt] at hcv
      have HT := Lib.hid htt
      clear htt
      go_wp2_with (fail)
      go_ret
      exact ⟨by rw [← HT.out]; rfl, hd1, hG⟩
end Go.Proofs.Ytdajfnonehianaa
