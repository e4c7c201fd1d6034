import Derived.Test.YtnikehgmopcocaaDoorPartsV
namespace Go.Proofs.YtnikehgmopcocaaDoor
open Go.RowKit

set_option maxHeartbeats 2000000 in
set_option maxRecDepth 100000 in
theorem impl_parts (s : ByteArray) (w : World) (hs : s.size ≤ 1048576) (htab : Lib.TabIs Tryd.prog w "strings.asciiSpace" .u8 Lib.asciiSpaceTab) : Calls Tryd.prog 13 #[.string s] w (PartsEnd w s) := by
  by_cases h600 : 600 < s.size
  · have q : (600 : Int) < (s.size : Int) := by omega
    have hR := Lib.hid (partsR_long h600)
    go_enter Tryd.func13, Tryd.ntmps13
    go_wp2_with (fail)
    go_ret2
    exact ⟨_, by rw [hR.out]; rfl, by rw [hR.out]; exact VRow.nil, Below.refl _ _⟩
  · have q : ¬ (600 : Int) < (s.size : Int) := by omega
    have cv := impl_valid s w hs
    go_enter Tryd.func13, Tryd.ntmps13
    go_wp2_with (fail)
    with_reducible refine cv.mono ?_
    rintro e w1 ⟨k, rfl, hk, rfl⟩
    rcases hk with ⟨rfl, hall⟩ | ⟨hlt, hbad⟩
    · have q1 : ¬ (s.size : Int) < (s.size : Int) := by omega
      have cf := Tryd.strings_Fields_laid s w (by omega) (ok_ascii hall) htab
      have HA := Lib.hid hall
      clear hall cv
      obtain ⟨fs, hfs⟩ : ∃ fs, fs = Lib.fields s.data.toList := ⟨_, rfl⟩
      rw [← hfs] at cf
      have hfl : fs.length ≤ s.size := by rw [hfs, Lib.fields_length]; have := Lib.cntF_le' s.data.toList true; rw [Lib.size_eq]; omega
      have hsm : ∀ x ∈ fs, x.length ≤ 600 := fun x hx => by
        have := fieldsGo_small s.data.toList [] x (by rw [← Lib.fields, ← hfs]; exact hx)
        simp at this
        omega
      have HF := Lib.hid hfs
      have HSM := Lib.hid hsm
      clear hfs hsm
      go_wp2_with (fail)
      with_reducible refine cf.mono ?_
      rintro e w2 ⟨rfl, rfl⟩
      clear cf
      by_cases hm : 12 < fs.length
      · have q2 : (12 : Int) < (fs.length : Int) := by omega
        have hR := Lib.hid (partsR_many (s := s) (by rw [← HF.out]; exact hm))
        have hb := below_new w (.cells (fs.map fun l => Value.string ⟨l.toArray⟩).toArray 9)
        go_wp2_with (fail)
        go_ret2
        exact ⟨_, by rw [hR.out]; rfl, by rw [hR.out]; exact VRow.nil, hb⟩
      · have q2 : ¬ (12 : Int) < (fs.length : Int) := by omega
        have hR := Lib.hid (partsR_ok (by omega) HA.out (by rw [← HF.out]; omega))
        have hb := below_new w (.cells (fs.map fun l => Value.string ⟨l.toArray⟩).toArray 9)
        have hrow : VRow (w.alloc (.cells (fs.map fun l => Value.string ⟨l.toArray⟩).toArray 9)) 9 w.heap.size (w.heap.size + 1) (.slice (some ⟨w.heap.size, 0, none⟩) (fs.map fun l => Value.string ⟨l.toArray⟩).length (fs.map fun l => Value.string ⟨l.toArray⟩).length) (fs.map fun l => Value.string ⟨l.toArray⟩) :=
          VRow.of_cel (Cel.new _ _ _) (Nat.le_refl _) (by omega) (by rw [List.length_map]; unfold maxLen; omega)
        rw [List.length_map] at hrow
        have hsz0 : w.heap.size + 1 ≤ (w.alloc (.cells (fs.map fun l => Value.string ⟨l.toArray⟩).toArray 9)).heap.size := by
          show _ ≤ (w.heap.push _).size
          rw [Array.size_push]
          exact Nat.le_refl _
        generalize w.alloc (.cells (fs.map fun l => Value.string ⟨l.toArray⟩).toArray 9) = W2 at hb hrow hsz0 ⊢
        go_wp2_with (fail)
        go_loopw [24] (fun i wr => ∃ k : Nat, k ≤ fs.length ∧ i = .int .i64 k ∧ VRow wr 9 w.heap.size (w.heap.size + 1) (.slice (some ⟨w.heap.size, 0, none⟩) fs.length fs.length) (fs.map fun l => Value.string ⟨l.toArray⟩) ∧ Below w.heap.size w wr ∧ w.heap.size + 1 ≤ wr.heap.size) (fun i _ => fs.length - (intOf i).toNat)
        case atStart => exact ⟨0, by omega, rfl, hrow, hb, hsz0⟩
        case round =>
          obtain ⟨k, hk, rfl, hr, hbl, hsz⟩ := hrel
          by_cases hlt : k < fs.length
          · have qk : (k : Int) < (fs.length : Int) := by omega
            obtain ⟨hc, hfz⟩ := hr.cell k (by rw [List.length_map]; exact hlt)
            rw [List.getElem_map] at hc
            have hsk := HSM.out fs[k] (List.getElem_mem hlt)
            have HR := Lib.hid hr
            have HB := Lib.hid hbl
            clear hr hbl
            have cc := impl_clone (⟨fs[k].toArray⟩ : ByteArray) wr (by show fs[k].toArray.size ≤ _; simp; omega)
            go_wp2_with (fail)
            with_reducible refine cc.mono ?_
            rintro e w3 ⟨rfl, hb3⟩
            clear cc
            have hr3 := HR.out.keep hb3 (by omega)
            have HR3 := Lib.hid (by
              have := hr3.set k (.string ⟨fs[k].toArray⟩)
              rw [show (fs.map fun l => Value.string ⟨l.toArray⟩).set k (.string ⟨fs[k].toArray⟩) = fs.map fun l => Value.string ⟨l.toArray⟩ from by
                apply List.ext_getElem (by simp)
                intro i h1 h2
                rw [List.getElem_set]
                split
                · subst_vars; simp
                · rfl] at this
              exact this)
            have HB3 := Lib.hid ((HB.out.trans (hb3.mono (by omega))).setCell (p := ⟨w.heap.size, k, none⟩) (Nat.le_refl _) (.string ⟨fs[k].toArray⟩))
            have hz3 : w.heap.size + 1 ≤ (w3.setCell ⟨w.heap.size, k, none⟩ (.string ⟨fs[k].toArray⟩)).heap.size := by
              have := hb3.size
              simp [World.setCell]
              omega
            have HZ3 := Lib.hid hz3
            obtain ⟨hc3, hf3⟩ := hr3.cell k (by rw [List.length_map]; exact hlt)
            rw [List.getElem_map] at hc3
            clear hr3 hz3 hb3
            go_wp2_with (fail)
            go_roundw
            case rel => exact ⟨k + 1, by omega, by go_num, HR3.out, HB3.out, HZ3.out⟩
            case measure => simp [intOf]; omega
          · obtain rfl : k = fs.length := by omega
            have qk : ¬ (fs.length : Int) < (fs.length : Int) := by omega
            have HR := Lib.hid hr
            have HB := Lib.hid hbl
            clear hr hbl
            go_wp2_with (fail)
            go_ret2
            refine ⟨.slice (some ⟨w.heap.size, 0, none⟩) fs.length fs.length, by rw [hR.out]; rfl, ?_, HB.out⟩
            rw [hR.out, ← HF.out]
            show VRow wr 9 w.heap.size wr.heap.size (.slice (some ⟨w.heap.size, 0, none⟩) fs.length fs.length) (strVs (fs.map fun l => ⟨l.toArray⟩))
            unfold strVs
            rw [List.map_map]
            exact HR.out.mono (Nat.le_refl _) hsz
    · have q1 : (k : Int) < (s.size : Int) := by omega
      have hR := Lib.hid (partsR_bad (s := s) hbad)
      clear hbad cv
      go_wp2_with (fail)
      go_ret2
      exact ⟨_, by rw [hR.out]; rfl, by rw [hR.out]; exact VRow.nil, Below.refl _ _⟩
end Go.Proofs.YtnikehgmopcocaaDoor
