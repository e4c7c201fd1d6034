import Derived.Test.YtnikehgmopcocaaDoorParts
import Derived.Deep.AppendLies
namespace Go.Proofs.YtnikehgmopcocaaDoor
open Go.RowKit

theorem infoS : (Tryd.prog.info? 9).map (fun i => (i.zero, i.size, i.bytes)) = some (some (.string ⟨#[]⟩), 1, 16) := by kernel_rfl

/-- Texts as values. -/
def strVs (ps : List ByteArray) : List Value := ps.map Value.string
theorem strVs_length (ps : List ByteArray) : (strVs ps).length = ps.length := by simp [strVs]

/-- What a call of PartsOf leaves. -/
def PartsEnd (w : World) (s : ByteArray) (e : Ending) (w' : World) : Prop :=
  ∃ v, e = .returned (.tuple #[v, .bool (partsR s).2]) ∧ VRow w' 9 w.heap.size w'.heap.size v (strVs (partsR s).1) ∧ Below w.heap.size w w'

theorem okByte_of (b : UInt8) (h1 : 32 ≤ b.toNat) (h2 : b.toNat ≤ 126) : okByte b = true := by unfold okByte; exact decide_eq_true ⟨h1, h2⟩
theorem okByte_lo (b : UInt8) (h1 : b.toNat < 32) : okByte b = false := by unfold okByte; exact decide_eq_false (by omega)
theorem okByte_hi (b : UInt8) (h1 : 126 < b.toNat) : okByte b = false := by unfold okByte; exact decide_eq_false (by omega)

theorem slice_mid (s : ByteArray) (a b : Nat) (h1 : a ≤ b) (h2 : b ≤ s.size) (W : World) :
    (Instr.slice 9 (.string s) (some (.int .i64 (a : Int))) (some (.int .i64 (b : Int))) none).run Tryd.prog W = .ok (.string (s.extract a b)) W := by
  rw [run_slice_string_if (P := Tryd.prog) (w := W) 9 s .i64 .i64 _ _ Tryd.underlying9]
  rw [if_pos (by omega), if_pos (by omega)]
  rfl

/-- What holds at the head of a round. -/
def PS (s : ByteArray) (ps : List ByteArray) (b k : Nat) : Prop :=
  if k ≤ s.size then b ≤ k ∧ okTo s k ∧ splitAt s ps b k else s.data.toList.all okByte = true ∧ Lib.fields s.data.toList = ps.map (·.data.toList)

set_option maxHeartbeats 2000000 in
set_option maxRecDepth 100000 in
theorem spec_parts (s : ByteArray) (w : World) (hs : s.size ≤ 1048576) : Calls Tryd.prog 12 #[.string s] w (PartsEnd w s) := by
  obtain ⟨i0, hi, hz0, hz1, hz2⟩ := info_parts infoS
  have hnil : ∀ W : World, w.heap.size ≤ W.heap.size → VRow (W.alloc (.cells #[] 9)) 9 w.heap.size (W.alloc (.cells #[] 9)).heap.size (.slice (some ⟨W.heap.size, 0, none⟩) 0 0) (strVs []) := fun W hW =>
    VRow.of_cel (xs := []) (Cel.new W 9 #[]) hW (by simp) (Nat.zero_le _)
  by_cases h600 : 600 < s.size
  · have q : (600 : Int) < (s.size : Int) := by omega
    have hR := partsR_long h600
    have h1 := hnil w (Nat.le_refl _)
    have h2 := below_new w (.cells #[] 9)
    go_enter Tryd.func12, Tryd.ntmps12
    go_wp2_with (fail)
    go_ret2
    exact ⟨_, by rw [hR]; rfl, by rw [hR]; exact h1, h2⟩
  · have q : ¬ (600 : Int) < (s.size : Int) := by omega
    have ho := World.ownsRow_made w (e := 9) (size := 1) (base := w.heap.size) #[] 0 (Nat.le_refl _) (by unfold maxLen; omega) rfl
    have hb0 := below_new w (.cells #[] 9)
    go_enter Tryd.func12, Tryd.ntmps12
    go_wp2_with (fail)
    go_loopw [4, 5, 6] (fun u bg i wr => ∃ (k b gg cap : Nat) (ps : List ByteArray), k ≤ s.size + 1 ∧ b ≤ s.size + 1 ∧ ps.length ≤ k ∧ i = .int .i64 k ∧ bg = .int .i64 b ∧ u = .slice (some ⟨gg, 0, none⟩) ps.length cap ∧ PS s ps b k ∧
      wr.ownsRow w.heap.size 9 1 (.slice (some ⟨gg, 0, none⟩) ps.length cap) ps.length (strVs ps) ∧ Below w.heap.size w wr) (fun _ _ i _ => s.size + 1 - (intOf i).toNat)
    case atStart => exact ⟨0, 0, w.heap.size, 0, [], by omega, by omega, by simp, rfl, rfl, rfl, by unfold PS; rw [if_pos (Nat.zero_le _)]; exact ⟨Nat.le_refl _, okTo_zero s, split_start s⟩, by simpa [strVs] using ho, hb0⟩
    case round =>
      clear ho hb0
      obtain ⟨k, b, gg, cap, ps, hk, hbs, hpl, rfl, rfl, rfl, hP, hown, hB⟩ := hrel
      by_cases hk1 : k < s.size
      · have hP' := hP
        unfold PS at hP'
        rw [if_pos (by omega)] at hP'
        obtain ⟨hbk, hto, hsp⟩ := hP'
        clear hP
        have q1 : (k : Int) < (s.size : Int) := by omega
        have q2 : (k : Int) ≤ (s.size : Int) := by omega
        have HT := Lib.hid hto
        have HS := Lib.hid hsp
        clear hto hsp
        by_cases hlo : s[k].toNat < 32
        · have hR := partsR_bad (bad_all hk1 (okByte_lo _ hlo))
          have HR := Lib.hid hR
          clear hR
          have q3 : (s[k].toNat : Int) < 32 := by omega
          have h1 := hnil wr hB.size
          have h2 := hB.alloc hB.size (.cells #[] 9)
          go_wp2_with (fail)
          go_ret2
          exact ⟨_, by rw [HR.out]; rfl, by rw [HR.out]; exact h1, h2⟩
        · have q3 : ¬ (s[k].toNat : Int) < 32 := by omega
          by_cases hhi : 126 < s[k].toNat
          · have hR := partsR_bad (bad_all hk1 (okByte_hi _ hhi))
            have HR := Lib.hid hR
            clear hR
            have q4 : (126 : Int) < (s[k].toNat : Int) := by omega
            have h1 := hnil wr hB.size
            have h2 := hB.alloc hB.size (.cells #[] 9)
            go_wp2_with (fail)
            go_ret2
            exact ⟨_, by rw [HR.out]; rfl, by rw [HR.out]; exact h1, h2⟩
          · have q4 : ¬ (126 : Int) < (s[k].toNat : Int) := by omega
            have hok := okByte_of s[k] (by omega) (by omega)
            have HK := Lib.hid hok
            clear hok
            by_cases h32 : s[k] = 32
            · have q5 : ((s[k].toNat : Int) != 32) = false := by rw [h32]; rfl
              by_cases hbk2 : b < k
              · have q6 : (b : Int) < (k : Int) := by omega
                have hsl := slice_mid s b k (by omega) (by omega)
                have hsz := hB.size
                have hgg := (hown.lt gg rfl).1
                have HN := Lib.hid (split_end HS.out hbk2 hk1 h32)
                have HT2 := Lib.hid (okTo_succ HT.out hk1 HK.out)
                generalize s.extract b k = new at hsl HN
                clear h32 HS HT HK
                go_wp2_with (at_builtin; refine wpList_append_one _ rfl _ _ 32 rfl w.heap.size 9 i0 (.string ⟨#[]⟩) 16 Tryd.underlying32 hi hz0 hz1 hz2 rfl (.string new) rfl rfl (hown.alloc _) (by simp; omega) wr.heap.size 1 rfl (by simp) (by unfold maxLen; omega) (by omega) ?_; intro g' cap' w2 hown' hgrow _)
                have hB2 : Below w.heap.size w w2 := (hB.alloc hsz _).grown hgrow (by simp; omega) (fun j hj => by injection hj with hj; subst hj; exact hgg)
                have e5 : strVs ps ++ [.string new] = strVs (ps ++ [new]) := by simp [strVs]
                have e6 : ps.length + 1 = (ps ++ [new]).length := by simp
                rw [e5, e6] at hown'
                have E6 := Lib.hid e6
                clear hown hB hgrow e5 e6
                go_wp2_with (fail)
                go_roundw
                case rel => exact ⟨k + 1, k + 1, g', cap', ps ++ [new], by omega, by omega, by rw [List.length_append]; simp only [List.length_singleton]; omega, by go_num, by go_num, by rw [← E6.out], by unfold PS; rw [if_pos (by omega)]; exact ⟨Nat.le_refl _, HT2.out, HN.out⟩, hown', hB2⟩
                case measure => simp [intOf]; omega
              · obtain rfl : b = k := by omega
                have q6 : ¬ (b : Int) < (b : Int) := by omega
                have HN := Lib.hid (split_blank HS.out hk1 h32)
                have HT2 := Lib.hid (okTo_succ HT.out hk1 HK.out)
                clear h32 HS HT HK
                go_wp2_with (fail)
                go_roundw
                case rel => exact ⟨b + 1, b + 1, gg, cap, ps, by omega, by omega, by omega, by go_num, by go_num, rfl, by unfold PS; rw [if_pos (by omega)]; exact ⟨Nat.le_refl _, HT2.out, HN.out⟩, hown, hB⟩
                case measure => simp [intOf]; omega
            · have h32' : s[k].toNat ≠ 32 := fun h => h32 (UInt8.toNat_inj.1 h)
              have q5 : ((s[k].toNat : Int) != 32) = true := by simp; omega
              have HN := Lib.hid (split_word HS.out hbk hk1 HK.out h32)
              have HT2 := Lib.hid (okTo_succ HT.out hk1 HK.out)
              clear h32 h32' HS HT HK
              go_wp2_with (fail)
              go_roundw
              case rel => exact ⟨k + 1, b, gg, cap, ps, by omega, by omega, by omega, by go_num, rfl, rfl, by unfold PS; rw [if_pos (by omega)]; exact ⟨by omega, HT2.out, HN.out⟩, hown, hB⟩
              case measure => simp [intOf]; omega
      · have q1 : ¬ (k : Int) < (s.size : Int) := by omega
        by_cases hk2 : k = s.size
        · subst hk2
          have hP' := hP
          unfold PS at hP'
          rw [if_pos (Nat.le_refl _)] at hP'
          obtain ⟨hbk, hto, hsp⟩ := hP'
          clear hP
          have q2 : (s.size : Int) ≤ (s.size : Int) := by omega
          have hall := Lib.hid (okTo_all hto)
          by_cases hbk2 : b < s.size
          · have q6 : (b : Int) < (s.size : Int) := by omega
            have hsl := slice_mid s b s.size (by omega) (by omega)
            have hsz := hB.size
            have hgg := (hown.lt gg rfl).1
            have HN := Lib.hid (split_last hsp hbk2)
            generalize s.extract b s.size = new at hsl HN
            clear hto hsp
            go_wp2_with (at_builtin; refine wpList_append_one _ rfl _ _ 32 rfl w.heap.size 9 i0 (.string ⟨#[]⟩) 16 Tryd.underlying32 hi hz0 hz1 hz2 rfl (.string new) rfl rfl (hown.alloc _) (by simp; omega) wr.heap.size 1 rfl (by simp) (by unfold maxLen; omega) (by omega) ?_; intro g' cap' w2 hown' hgrow _)
            have hB2 : Below w.heap.size w w2 := (hB.alloc hsz _).grown hgrow (by simp; omega) (fun j hj => by injection hj with hj; subst hj; exact hgg)
            have e5 : strVs ps ++ [.string new] = strVs (ps ++ [new]) := by simp [strVs]
            have e6 : ps.length + 1 = (ps ++ [new]).length := by simp
            rw [e5, e6] at hown'
            have E6 := Lib.hid e6
            clear hown hB hgrow e5 e6
            go_wp2_with (fail)
            go_roundw
            case rel => exact ⟨s.size + 1, s.size + 1, g', cap', ps ++ [new], by omega, by omega, by rw [List.length_append]; simp only [List.length_singleton]; omega, by go_num, by go_num, by rw [← E6.out], by unfold PS; rw [if_neg (by omega)]; exact ⟨hall.out, HN.out⟩, hown', hB2⟩
            case measure => simp [intOf]
          · have q6 : ¬ (b : Int) < (s.size : Int) := by omega
            have HN := Lib.hid (split_none hsp (by omega))
            clear hto hsp
            go_wp2_with (fail)
            go_roundw
            case rel => exact ⟨s.size + 1, s.size + 1, gg, cap, ps, by omega, by omega, by omega, by go_num, by go_num, rfl, by unfold PS; rw [if_neg (by omega)]; exact ⟨hall.out, HN.out⟩, hown, hB⟩
            case measure => simp [intOf]
        · obtain rfl : k = s.size + 1 := by omega
          unfold PS at hP
          rw [if_neg (by omega)] at hP
          obtain ⟨hall, hf⟩ := hP
          have q2 : ¬ (((s.size + 1 : Nat) : Int) ≤ (s.size : Int)) := by omega
          have hfl : (Lib.fields s.data.toList).length = ps.length := by rw [hf]; simp
          by_cases hm : 12 < ps.length
          · have HR := Lib.hid (partsR_many (s := s) (by omega))
            have q3 : (12 : Int) < (ps.length : Int) := by omega
            have h1 := hnil wr hB.size
            have h2 := hB.alloc hB.size (.cells #[] 9)
            clear hf hfl hall
            go_wp2_with (fail)
            go_ret2
            exact ⟨_, by rw [HR.out]; rfl, by rw [HR.out]; exact h1, h2⟩
          · have HR := Lib.hid ((partsR_ok (by omega) hall (by omega)).trans (by rw [parts_back _ ps hf]))
            have q3 : ¬ (12 : Int) < (ps.length : Int) := by omega
            clear hf hfl hall
            go_wp2_with (fail)
            go_ret2
            refine ⟨_, by rw [HR.out]; rfl, ?_, hB⟩
            rw [HR.out]
            exact ⟨by rw [strVs_length]; exact hown, fun g hg => (hown.lt g hg).2⟩
end Go.Proofs.YtnikehgmopcocaaDoor
