import Derived.Test.YtihogaabojnbpaaDr
import Derived.Test.YtihogaabojnbpaaCel
import Derived.Test.YtihogaabojnbpaaBytes
namespace Go.Proofs.Ytihogaabojnbpaa
open Go.RowKit

theorem own_only2 {g B : Nat} {w w' : World} {v : Value} {e : TypeId} {size n : Nat} {xs : List Value} (h : w.ownsRow B e size v n xs) (ho : Only g w w') (hB : g < B) : w'.ownsRow B e size v n xs := by
  obtain ⟨h1, h2⟩ := h
  refine ⟨h1, ?_⟩
  rcases h2 with h2 | ⟨g', cap, cur, hv, hg, hh, r⟩
  · exact .inl h2
  · refine .inr ⟨g', cap, cur, hv, hg, ?_, r⟩
    rw [ho.at_ g' (by omega)]
    exact hh

theorem Cel.only {g b : Nat} {w w' : World} {t : TypeId} {cs : Array Value} (h : Cel w b t cs) (ho : Only g w w') (hb : b ≠ g) : Cel w' b t cs := by
  show w'.heap[b]? = _
  rw [ho.at_ b hb]; exact h

/-- Only block g, and what is new, has turned. -/
def Grew (g : Nat) (w w' : World) : Prop := w.grownBy w' (some g)

theorem Only.grew {g : Nat} {w w' : World} (h : Only g w w') : Grew g w w' :=
  ⟨h.bl.os, h.bl.tape, h.bl.output, Nat.le_of_eq h.size.symm, fun i _ hn => h.at_ i (fun e => hn (by rw [e]))⟩
theorem Grew.refl (g : Nat) (w : World) : Grew g w w := ⟨rfl, rfl, rfl, Nat.le_refl _, fun _ _ _ => rfl⟩
theorem Grew.trans {g : Nat} {a b c : World} (h : Grew g a b) (k : Grew g b c) : Grew g a c :=
  ⟨k.os.trans h.os, k.tape.trans h.tape, k.output.trans h.output, Nat.le_trans h.size k.size, fun i hi hn => (k.block i (Nat.lt_of_lt_of_le hi h.size) hn).trans (h.block i hi hn)⟩
theorem Grew.of_below {g B : Nat} {a b : World} (h : Below B a b) (hB : a.heap.size ≤ B) : Grew g a b :=
  ⟨h.os, h.tape, h.output, h.size, fun i hi _ => h.block i (by omega)⟩
theorem Grew.below {g B : Nat} {a b : World} (h : Grew g a b) (hB : B ≤ g) (hB2 : B ≤ a.heap.size) : Below B a b :=
  ⟨h.os, h.tape, h.output, h.size, fun i hi => h.block i (by omega) (fun e => by injection e with e; omega)⟩
theorem Cel.grew {g b : Nat} {w w' : World} {t : TypeId} {cs : Array Value} (h : Cel w b t cs) (ho : Grew g w w') (hb : b ≠ g) : Cel w' b t cs := h.grown ho (fun e => hb (by injection e))
theorem Grew.chain {g B : Nat} {a b c : World} (h : Below B a b) (k : Grew g b c) (hB : B ≤ g) (hB2 : B ≤ b.heap.size) : Below B a c := h.trans (k.below hB hB2)

/-- A row of bytes of the call's own, empty or not, made a string. -/
theorem conv_row {W : World} {B g n cap : Nat} {l : List UInt8} (h : W.ownsRow B 5 1 (.slice (some ⟨g, 0, none⟩) l.length cap) l.length (l.map cb)) (hl : l.length = n) :
    (convert 22 9 (.slice (some ⟨g, 0, none⟩) n cap)).run Try.prog W = .ok (.string ⟨l.toArray⟩) W := by
  subst hl
  refine run_convert_bytes_back W 22 9 5 ⟨g, 0, none⟩ cap l Try.underlying22 Try.underlying5 Try.underlying9 fun j hj => ?_
  have hc := h.cells (g := g) rfl j (cb l[j]) (by rw [List.getElem?_map, List.getElem?_eq_getElem hj]; rfl)
  exact hc

/-- One of a list of numbers. -/
theorem pick_int (g : Nat) (v : Value) (n : Nat) (w : World) (hd : Dr w g v n) (b cap : Nat) (zs : List Int) (hc : Cel w b 3 (zs.map (Value.int .i64)).toArray) (hb : b ≠ g) (h0 : 0 < zs.length) (hl : zs.length ≤ 1000) :
    Calls Try.prog 43 #[.pointer (some ⟨g, 0, none⟩), .slice (some ⟨b, 0, none⟩) zs.length cap] w fun e w' => ∃ j : Fin zs.length, e = .returned (.int .i64 zs[j]) ∧ Dr w' g v n ∧ Only g w w' := by
  have cb := below_dr g v n zs.length w hd h0 (by omega)
  go_enter Try.func43, Try.ntmps43
  go_wp2_with (fail)
  with_reducible refine cb.mono ?_
  rintro e w1 ⟨r, hr, rfl, d1, o1⟩
  have hcell : w1.cell? ⟨b, r, none⟩ = some (.int .i64 (zs[r]'hr)) := by
    rw [(hc.only o1 hb).cell r]
    simp [hr]
  have q : (r : Int) < (zs.length : Int) := by omega
  have q0 : (0 : Int) ≤ (r : Int) := by omega
  go_wp2_with (fail)
  go_ret
  exact ⟨⟨r, hr⟩, rfl, d1, o1⟩

set_option maxHeartbeats 1000000 in
/-- A drawn text of k bytes. -/
theorem draw_text (g : Nat) (v : Value) (n k : Nat) (w : World) (hd : Dr w g v n) (hk : k ≤ 5000) :
    Calls Try.prog 61 #[.pointer (some ⟨g, 0, none⟩), .int .i64 (k : Int)] w fun e w' => ∃ s : ByteArray, s.size = k ∧ e = .returned (.string s) ∧ Dr w' g v n ∧ Grew g w w' := by
  obtain ⟨i0, hi, hz0, hz1, hz2⟩ := info_parts info5
  have q : ¬ (5000 : Int) < (k : Int) := by omega
  have hgw := hd.blk
  have ho := World.ownsRow_made w (e := 5) (size := 1) (base := w.heap.size) #[] 0 (Nat.le_refl _) (by unfold maxLen; omega) rfl
  have hd0 := hd.kept (below_new w (.cells #[] 5))
  have hG : Grew g w (w.alloc (.cells #[] 5)) := Grew.of_below (below_new w (.cells #[] 5)) (Nat.le_refl _)
  go_enter Try.func61, Try.ntmps61
  go_wp2_with (fail)
  go_loopw [5, 6] (fun u i wr => ∃ (j gg cap : Nat) (l : List UInt8), j ≤ k ∧ i = .int .i64 j ∧ u = .slice (some ⟨gg, 0, none⟩) j cap ∧ l.length = j ∧ wr.ownsRow w.heap.size 5 1 (.slice (some ⟨gg, 0, none⟩) j cap) j (l.map cb) ∧ Dr wr g v n ∧ Grew g w wr) (fun _ i _ => k - (intOf i).toNat)
  case atStart => exact ⟨0, w.heap.size, 0, [], by omega, rfl, rfl, rfl, by simpa using ho, hd0, hG⟩
  case round =>
    clear ho hd0 hG
    obtain ⟨j, gg, cap, l, hj, rfl, rfl, hl, hown, hd1, hG⟩ := hrel
    by_cases hlt : j < k
    · have q1 : (j : Int) < (k : Int) := by omega
      have cb1 := byte_dr g v n wr hd1
      go_wp2_with (fail)
      with_reducible refine cb1.mono ?_
      rintro e w2 ⟨r, hr, rfl, d2, o2⟩
      have hown2 := own_only2 hown o2 hgw
      have hG2 := hG.trans o2.grew
      have hs2 := hG2.size
      obtain ⟨c, hc⟩ : ∃ c : UInt8, (r : Int) % 256 = (c.toNat : Int) := ⟨UInt8.ofNat r, by simp⟩
      have hw : IntKind.u8.wrap (r : Int) = (c.toNat : Int) := by rw [IntKind.wrap_u8', hc]
      clear hown hG cb1 o2
      go_wp2_with (at_builtin; refine wpList_append_own _ rfl _ _ 22 rfl w.heap.size 5 i0 (.int .u8 0) 1 1 Try.underlying22 hi hz0 hz1 hz2 rfl (by decide) _ _ _ rfl (hown2.alloc _) ⟨w2.heap.size, 0, none⟩ 1 1 [cb c] rfl rfl ?c1 ?c2 ?c3 ?c4 ?c5 ?_)
      case c1 =>
        intro i u hi
        match i, hi with
        | 0, hi => simp at hi; subst hi; simp [Addr.add, cb]
      case c2 => intro u hu; simp at hu; subst hu; rfl
      case c3 => unfold maxLen; omega
      case c4 => omega
      case c5 => simp; omega
      intro v' w3 hown3 hgrow _
      have hb3 : Below w.heap.size w2 w3 := ((Below.refl w.heap.size w2).alloc (by omega) _).grown hgrow (by simp; omega) (fun i hi => (hown2.lt i hi).1)
      have d3 := d2.below hb3 hgw
      have hG3 : Grew g w w3 := ⟨hb3.os.trans hG2.os, hb3.tape.trans hG2.tape, hb3.output.trans hG2.output, Nat.le_trans hG2.size hb3.size, fun i hi hn => (hb3.block i hi).trans (hG2.block i hi hn)⟩
      obtain ⟨g', cap', rfl⟩ : ∃ g cap, v' = .slice (some ⟨g, 0, none⟩) (j + 1) cap := by
        rcases hown3.2 with ⟨_, h0⟩ | ⟨g, cap, cur, hv, _⟩
        · omega
        · exact ⟨g, cap, hv⟩
      have e5 : l.map cb ++ [cb c] = (l ++ [c]).map cb := by simp
      rw [e5] at hown3
      clear hown2 d2 hG2 hb3 hgrow e5
      go_wp2_with (fail)
      go_roundw
      case rel => exact ⟨j + 1, g', cap', l ++ [c], by omega, by go_num, rfl, by simp [hl], hown3, d3, hG3⟩
      case measure => simp [intOf]; omega
    · obtain rfl : j = k := by omega
      have q1 : ¬ ((j : Int) < (j : Int)) := by omega
      have hcv : (convert 22 9 (.slice (some ⟨gg, 0, none⟩) j cap)).run Try.prog wr = .ok (.string ⟨l.toArray⟩) wr := conv_row (by rw [hl]; exact hown) hl
      have hsz : (⟨l.toArray⟩ : ByteArray).size = j := by show l.toArray.size = j; simp [hl]
      generalize (⟨l.toArray⟩ : ByteArray) = s at hcv hsz
      go_wp2_with (fail)
      go_ret
      exact ⟨s, hsz, rfl, hd1, hG⟩
end Go.Proofs.Ytihogaabojnbpaa
