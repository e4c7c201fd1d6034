import Derived.Test.YtkpajakangaekabOtx
namespace Go.Proofs.Ytkpajakangaekab
open Go.RowKit
attribute [-go_sem] loadCells loadCellsFrom

/-- The fields of an option, by its kind. -/
def fieldsOf (o : Ov) : ByteArray := if o.kind = 1 then ofSz o.key 8 else if o.kind = 2 then rowOf [numText o.id 1, flagTx o.flag, numText o.token 4, numText o.nonce 4] else if o.kind = 3 then rowOf [numText o.id 1, flagTx o.flag, ofSz o.mark 8, numText o.nonce 4] else if o.kind = 4 then ofSz o.mark 20 else if o.kind = 5 then rowOf [numText o.ack 6, numText o.seq 6, numText o.sub 4, numText o.len 2] else if o.kind = 6 then rowOf [numText o.id 1, numText o.addr 4, numText o.port 2, ofSz o.mark 8] else if o.kind = 7 then rowOf [numText o.id 1, numText o.addr 4, numText o.port 2] else if o.kind = 8 then goneTx o.ids else if o.kind = 9 then numText o.seq 6 else if o.kind = 10 then ofSz o.key 8 else ⟨#[]⟩
/-- What an option has of its kind. -/
def plainOf (o : Ov) : Ov := if o.kind = 1 then plain1 o else if o.kind = 2 then plain2 o else if o.kind = 3 then plain3 o else if o.kind = 4 then plain4 o else if o.kind = 5 then plain5 o else if o.kind = 6 then plain6 o else if o.kind = 7 then plain7 o else if o.kind = 8 then plain8 o else if o.kind = 9 then plain9 o else if o.kind = 10 then plain10 o else o
/-- What OptText answers. -/
def optTx (o : Ov) : ByteArray := if 1 ≤ o.kind ∧ o.kind ≤ 10 then (if sameOv (plainOf o) o = true then headed o.kind (fieldsOf o) else ⟨#[]⟩) else ⟨#[]⟩

set_option maxRecDepth 100000 in
set_option maxHeartbeats 1000000 in
theorem otx_none (o : Ov) (v : Value) (w : World) (hv : Rd w v o.ids) (hkd : ¬ (1 ≤ o.kind ∧ o.kind ≤ 10)) :
    Calls Try.prog 8 #[.agg (o.cells v)] w fun e w' => e = .returned (.string ⟨#[]⟩) ∧ Below w.heap.size w w' := by
  have hB0 := below_new w (.cells (o.cells v) 26)
  have B0 : Box (w.alloc (.cells (o.cells v) 26)) w.heap.size o v := ⟨Cel.new w _ _, hv.below hB0⟩
  have l0 := (box_all (w := w) B0 hB0).2.1
  obtain ⟨va, vc, rfl⟩ : ∃ x c, v = .slice x o.ids.length c := by obtain ⟨x, c, h, -⟩ := hv; exact ⟨x, c, h⟩
  clear hv
  have c1 := fun W => opo_none o (.slice va o.ids.length vc) W hkd
  have hnl := fun W => (show (binOp .eql 54 .nilIface .nilIface).run Try.prog W = .ok (.bool true) W by kernel_rfl)
  clear hkd
  go_enter Try.func8, Try.ntmps8
  go_wp2_with (fail)
  with_reducible refine (c1 _).mono ?_
  rintro e w1 ⟨rfl, hb1⟩
  have B1 := B0.kept hb1
  have hB1 := Below.then_ hB0 hb1
  have S1 := box_drew B1 hB1
  clear B0 hB0 l0 hb1 B1 c1
  go_wp2_with (fail)
  clear S1
  go_quiet (fail)
  go_wp2_with (fail)
  go_ret
  exact ⟨rfl, ⟨hB1.os, hB1.tape, hB1.output, hB1.size, hB1.block⟩⟩

theorem impl_optText (o : Ov) (v : Value) (w : World) (hv : Rd w v o.ids) (hn : o.ids.length ≤ 1048576) :
    Calls Try.prog 8 #[.agg (o.cells v)] w fun e w' => e = .returned (.string (optTx o)) ∧ Below w.heap.size w w' := by
  unfold optTx
  by_cases h : 1 ≤ o.kind ∧ o.kind ≤ 10
  · rw [if_pos h]
    have hc : o.kind = 1 ∨ o.kind = 2 ∨ o.kind = 3 ∨ o.kind = 4 ∨ o.kind = 5 ∨ o.kind = 6 ∨ o.kind = 7 ∨ o.kind = 8 ∨ o.kind = 9 ∨ o.kind = 10 := by omega
    rcases hc with hk | hk | hk | hk | hk | hk | hk | hk | hk | hk
    · have e1 : fieldsOf o = ofSz o.key 8 := by unfold fieldsOf; simp [hk]
      have e2 : plainOf o = plain1 o := by unfold plainOf; simp [hk]
      rw [e1, e2]
      exact otx_1 o v w hv hn hk
    · have e1 : fieldsOf o = rowOf [numText o.id 1, flagTx o.flag, numText o.token 4, numText o.nonce 4] := by unfold fieldsOf; simp [hk]
      have e2 : plainOf o = plain2 o := by unfold plainOf; simp [hk]
      rw [e1, e2]
      exact otx_2 o v w hv hn hk
    · have e1 : fieldsOf o = rowOf [numText o.id 1, flagTx o.flag, ofSz o.mark 8, numText o.nonce 4] := by unfold fieldsOf; simp [hk]
      have e2 : plainOf o = plain3 o := by unfold plainOf; simp [hk]
      rw [e1, e2]
      exact otx_3 o v w hv hn hk
    · have e1 : fieldsOf o = ofSz o.mark 20 := by unfold fieldsOf; simp [hk]
      have e2 : plainOf o = plain4 o := by unfold plainOf; simp [hk]
      rw [e1, e2]
      exact otx_4 o v w hv hn hk
    · have e1 : fieldsOf o = rowOf [numText o.ack 6, numText o.seq 6, numText o.sub 4, numText o.len 2] := by unfold fieldsOf; simp [hk]
      have e2 : plainOf o = plain5 o := by unfold plainOf; simp [hk]
      rw [e1, e2]
      exact otx_5 o v w hv hn hk
    · have e1 : fieldsOf o = rowOf [numText o.id 1, numText o.addr 4, numText o.port 2, ofSz o.mark 8] := by unfold fieldsOf; simp [hk]
      have e2 : plainOf o = plain6 o := by unfold plainOf; simp [hk]
      rw [e1, e2]
      exact otx_6 o v w hv hn hk
    · have e1 : fieldsOf o = rowOf [numText o.id 1, numText o.addr 4, numText o.port 2] := by unfold fieldsOf; simp [hk]
      have e2 : plainOf o = plain7 o := by unfold plainOf; simp [hk]
      rw [e1, e2]
      exact otx_7 o v w hv hn hk
    · have e1 : fieldsOf o = goneTx o.ids := by unfold fieldsOf; simp [hk]
      have e2 : plainOf o = plain8 o := by unfold plainOf; simp [hk]
      rw [e1, e2]
      exact otx_8 o v w hv hn hk
    · have e1 : fieldsOf o = numText o.seq 6 := by unfold fieldsOf; simp [hk]
      have e2 : plainOf o = plain9 o := by unfold plainOf; simp [hk]
      rw [e1, e2]
      exact otx_9 o v w hv hn hk
    · have e1 : fieldsOf o = ofSz o.key 8 := by unfold fieldsOf; simp [hk]
      have e2 : plainOf o = plain10 o := by unfold plainOf; simp [hk]
      rw [e1, e2]
      exact otx_10 o v w hv hn hk
  · rw [if_neg h]
    exact otx_none o v w hv h
attribute [irreducible] optTx

theorem empty_b2 (s : ByteArray) : (s.toList == []) = decide (s = ⟨#[]⟩) := by rw [← empty_b1]; cases s.toList <;> rfl

theorem impl_optOk (o : Ov) (v : Value) (w : World) (hv : Rd w v o.ids) (hn : o.ids.length ≤ 1048576) :
    Calls Try.prog 10 #[.agg (o.cells v)] w fun e w' => e = .returned (.bool (!decide (optTx o = ⟨#[]⟩))) ∧ Below w.heap.size w w' := by
  have hB0 := below_new w (.cells (o.cells v) 26)
  have B0 : Box (w.alloc (.cells (o.cells v) 26)) w.heap.size o v := ⟨Cel.new w _ _, hv.below hB0⟩
  have l0 := (box_all (w := w) B0 hB0).2.1
  have c1 := impl_optText o v _ B0.r hn
  have e1 := empty_b1 (optTx o)
  have e2 := empty_b2 (optTx o)
  generalize optTx o = t at *
  have HE := Lib.hid (And.intro e1 e2)
  clear e1 e2
  go_enter Try.func10, Try.ntmps10
  go_wp2_with (fail)
  with_reducible refine c1.mono ?_
  rintro e w1 ⟨rfl, hb1⟩
  go_wp2_with (fail)
  go_ret
  exact ⟨by rw [← HE.out.1]; rfl, Below.then_ hB0 hb1⟩

theorem impl_optSize (o : Ov) (v : Value) (w : World) (hv : Rd w v o.ids) (hn : o.ids.length ≤ 1048576) :
    Calls Try.prog 11 #[.agg (o.cells v)] w fun e w' => e = .returned (.int .i64 ((optTx o).size : Int)) ∧ Below w.heap.size w w' := by
  have hB0 := below_new w (.cells (o.cells v) 26)
  have B0 : Box (w.alloc (.cells (o.cells v) 26)) w.heap.size o v := ⟨Cel.new w _ _, hv.below hB0⟩
  have l0 := (box_all (w := w) B0 hB0).2.1
  have c1 := impl_optText o v _ B0.r hn
  generalize optTx o = t at *
  go_enter Try.func11, Try.ntmps11
  go_wp2_with (fail)
  with_reducible refine c1.mono ?_
  rintro e w1 ⟨rfl, hb1⟩
  go_wp2_with (fail)
  go_ret
  exact ⟨rfl, Below.then_ hB0 hb1⟩
end Go.Proofs.Ytkpajakangaekab
