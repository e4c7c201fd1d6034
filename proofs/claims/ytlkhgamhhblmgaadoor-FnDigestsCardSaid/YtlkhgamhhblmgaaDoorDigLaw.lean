import Derived.Test.YtlkhgamhhblmgaaDoorDigests
import Derived.Deep.RegionHeld3
namespace Go.Proofs.YtlkhgamhhblmgaaDoor
open Go.RowKit

theorem pad_facts (s : ByteArray) : ∃ m, (padText s).size = 64 * m ∧ s.size + 9 ≤ 64 * m ∧ 64 * m ≤ s.size + 72 ∧ (padText s).extract 0 s.size = s := by
  have h : (padText s).size = s.size + 1 + zerosOf s.size + 8 := by
    show (padOf s).toArray.size = _
    rw [List.size_toArray, padOf, List.length_append, headPad_length, lenBytes_length]
  have hz : (s.size + 1 + zerosOf s.size + 8) % 64 = 0 := by unfold zerosOf; omega
  have hl := zerosOf_lt s.size
  refine ⟨(s.size + 1 + zerosOf s.size + 8) / 64, by omega, by omega, by omega, ?_⟩
  apply ByteArray.ext
  apply Array.toList_inj.1
  rw [Lib.extract_data]
  show ((padOf s).toArray.toList.drop 0).take (s.size - 0) = s.data.toList
  unfold padOf headPad
  simp

theorem num_word (x : BitVec 32) : numBytes x.toNat 4 = wordBytes x := by
  apply List.ext_getElem
  · rw [numBytes_length]; rfl
  · intro i h1 h2
    have h3 : i < 4 := by rw [numBytes_length] at h1; exact h1
    have hb := x.isLt
    apply UInt8.toNat_inj.1
    have h4 := numBytes_get x.toNat 4 i h3
    have b1 := wbyte_int x 24
    have b2 := wbyte_int x 16
    have b3 := wbyte_int x 8
    have b4 := wbyte_int x 0
    simp only [Int.reducePow, Int.pow_zero, Int.ediv_one] at b1 b2 b3 b4
    match i, h3 with
    | 0, _ => show _ = (wbyte x 24).toNat; simp only [Nat.reduceSub, Nat.reducePow] at h4; omega
    | 1, _ => show _ = (wbyte x 16).toNat; simp only [Nat.reduceSub, Nat.reducePow] at h4; omega
    | 2, _ => show _ = (wbyte x 8).toNat; simp only [Nat.reduceSub, Nat.reducePow] at h4; omega
    | 3, _ => show _ = (wbyte x 0).toNat; simp only [Nat.reduceSub, Nat.reducePow] at h4; omega

theorem st_step (d : Array (BitVec 32)) (k : Nat) : (⟨(stText d k).toArray⟩ : ByteArray) ++ (⟨(numBytes d[k]!.toNat 4).toArray⟩ : ByteArray) = ⟨(stText d (k + 1)).toArray⟩ := by
  rw [num_word, stText_succ]
  apply ByteArray.ext
  apply Array.toList_inj.1
  simp

theorem slice_to (t : ByteArray) (x : Nat) (h2 : x ≤ t.size) (W : World) :
    (Instr.slice 9 (.string t) none (some (.int .i64 (x : Int))) none).run Tryd.prog W = .ok (.string (t.extract 0 x)) W := by
  have h1 : (0 : Int) ≤ (x : Int) := by omega
  simp [Instr.slice, run_underlying Tryd.underlying9, Instr.sliceBounds, Instr.sliceBound, asIntOf, h1]
  omega

theorem impl_cut20 (s : ByteArray) (w : World) (hs : s.size ≤ 1048576) (hk : Keys w) (hst : Starts w) :
    Calls Tryd.prog 20 #[.string s, .int .i64 20] w fun e w' => e = .returned (.string ((digestOf s).extract 0 20)) ∧ Below w.heap.size w w' := by
  have c1 := impl_digest s w (by omega) hk hst
  have hsl := slice_to (digestOf s) 20 (by rw [digestOf_size]; omega)
  generalize (digestOf s).extract 0 20 = r at hsl
  generalize digestOf s = t at c1 hsl
  rw [show ((20 : Nat) : Int) = (20 : Int) from rfl] at hsl
  go_enter Tryd.func20, Tryd.ntmps20
  go_wp2_with (go_at_call 19; refine c1.mono ?_; rintro e w1 ⟨rfl, hb1⟩)
  go_ret
  exact ⟨rfl, hb1⟩

theorem keep_tabs {a W W' : World} (h : Keys W ∧ Starts W ∧ Below a.heap.size a W) (hb : Below W.heap.size W W') : Keys W' ∧ Starts W' ∧ Below a.heap.size a W' :=
  ⟨h.1.below hb, h.2.1.below hb, Below.then_ h.2.2 hb⟩

theorem keep_tabsd {a W : World} (h : Keys W ∧ Starts W ∧ Below a.heap.size a W) : Keys W.drew ∧ Starts W.drew ∧ Below a.heap.size a W.drew := ⟨h.1, h.2.1, h.2.2.drew⟩

set_option maxHeartbeats 2000000 in
set_option maxRecDepth 100000 in
theorem digests_law (v : Value) (w : World) (hk : Keys w) (hst : Starts w) (n : Nat) (hr : RdB w v n) :
    Calls Tryd.prog 4 #[v] w fun e w' => e = .returned (.bool true) ∧ Below w.heap.size w w' := by
  have cb := big_call v n w hr
  by_cases hn : 1048576 < n
  · rw [decide_eq_true hn] at cb
    clear hn hr
    go_enter Tryd.func4, Tryd.ntmps4
    go_wp2_with (go_at_call 9; refine cb.mono ?_; rintro e w1 ⟨rfl, rfl⟩)
    go_ret
    exact ⟨rfl, Below.refl _ _⟩
  · rw [decide_eq_false hn] at cb
    have cd := draw_digest v n w hr (by omega)
    clear hn hr
    go_enter Tryd.func4, Tryd.ntmps4
    go_wp2_with (go_at_call 9; refine cb.mono ?_; rintro e w1 ⟨rfl, rfl⟩)
    with_reducible refine cd.mono ?_
    rintro e w1 ⟨T, hT, rfl, hb1⟩
    clear cb cd
    have k1 := hk.below hb1
    have s1 := hst.below hb1
    have c31 := fun W => impl_pad T W (by omega)
    change ∀ W, Calls Tryd.prog 15 #[.string T] W fun e w' => e = .returned (.string (padText T)) ∧ Below W.heap.size W w' at c31
    obtain ⟨m, hm, hm1, hm2, hpre⟩ := pad_facts T
    have hsl := slice_to (padText T) T.size (by omega)
    rw [hpre] at hsl
    clear hpre
    have hdef : digestOf T = ⟨(stText (digState (padText T) ((padText T).size / 64)) 8).toArray⟩ := rfl
    rw [hm, show 64 * m / 64 = m by omega] at hdef
    have hst0 := digState_zero (padText T)
    have hss := fun k => digState_succ (padText T) k
    have hsz := fun k => digState_size (padText T) k
    have HB : ∀ k, k < m → (blk (padText T) k).size = 64 := fun k hlt => by
      unfold blk; rw [ByteArray.size_extract]; omega
    have HX : ∀ k, (padText T).extract (64 * k) (64 * k + 64) = blk (padText T) k := fun k => by unfold blk; rfl
    have HD := Lib.hid hdef
    have HS0 := Lib.hid hst0
    have HSS := Lib.hid hss
    have HSZ := Lib.hid hsz
    have HBB := Lib.hid HB
    have HXX := Lib.hid HX
    have HM := Lib.hid hm
    clear hdef hst0 hss hsz HB HX
    have p1 : 64 * m ≤ (padText T).size := by omega
    have p2 : (padText T).size ≤ 64 * m := by omega
    clear hm
    generalize hP : padText T = P at c31 hsl HD HS0 HSS HSZ HBB HXX HM p1 p2
    clear hP
    go_wp2_with (fail)
    with_reducible refine (c31 _).mono ?_
    rintro e w2 ⟨rfl, hb2⟩
    have k2 := k1.below hb2
    have s2 := s1.below hb2
    have hB2 := Below.then_ hb1 hb2
    clear k1 s1 hb1 hb2 c31 hk hst
    have q1 : (P.size : Int) % 64 = 0 := by omega
    have q2 : (((P.size : Int) % 64) != 0) = false := by simp [q1]
    have q3 : ¬ ((P.size : Int) < (T.size : Int) + 9) := by omega
    have q4 : ¬ ((T.size : Int) + 72 < (P.size : Int)) := by omega
    have Q1 := Lib.hid q1
    clear q1
    go_wp2_with (fail)
    with_reducible refine (impl_start w2 s2).mono ?_
    rintro e w3 ⟨v3, rfl, hr3, hb3⟩
    have k3 := k2.below hb3
    have s3 := s2.below hb3
    have hB3 := Below.then_ hB2 hb3
    rw [← HS0.out] at hr3
    have hrd3 := hr3.rd
    clear k2 s2 hB2 hb3 hr3 hsl q2 q3 q4 Q1 HS0 hm1 hm2
    go_wp2_with (fail)
    go_loopw [5, 6] (fun u i wr => ∃ k : Nat, k ≤ m ∧ i = .int .i64 ((64 * k : Nat) : Int) ∧ Rd wr u (words (digState P k)) ∧ Keys wr ∧ Starts wr ∧ Below w.heap.size w wr) (fun _ i _ => P.size - (intOf i).toNat)
    case atStart => exact ⟨0, by omega, rfl, hrd3, k3, s3, hB3⟩
    case round =>
      clear hrd3 k3 s3 hB3
      obtain ⟨k, hkm, rfl, hrd, kk, ss, hB⟩ := hrel
      by_cases hlt : k < m
      · obtain ⟨a, ha⟩ : ∃ a, 64 * k = a := ⟨_, rfl⟩
        have hbk := HXX.out k
        have hbs := HBB.out k hlt
        rw [ha] at hbk ⊢
        have q5 : a + 64 ≤ P.size := by omega
        have hsl := slice_blk P a q5
        rw [hbk] at hsl
        have cg := sha_good _ (digState P k) (HSZ.out k) (blk P k) hbs wr hrd kk
        rw [← HSS.out k] at cg
        have q1 : (a : Int) < (P.size : Int) := by omega
        have q2 : IntKind.i64.wrap ((a : Int) + 64) = (a : Int) + 64 := IntWalk.i64_in _ (by omega)
        have q4 : (a : Int) + 64 ≤ (P.size : Int) := by omega
        clear hbk hbs hrd
        go_wp2_with (fail)
        with_reducible refine cg.mono ?_
        rintro e w4 ⟨v4, rfl, hr4, hb4⟩
        have hrd4 := hr4.rd
        have k4 := kk.below hb4
        have s4 := ss.below hb4
        have hB4 := Below.then_ hB hb4
        clear cg hsl kk ss hB hb4 hr4
        go_wp2_with (fail)
        go_roundw
        case rel => exact ⟨k + 1, by omega, by rw [show (a : Int) + 64 = ((64 * (k + 1) : Nat) : Int) by omega], hrd4, k4, s4, hB4⟩
        case measure => simp [intOf]; omega
      · obtain rfl : k = m := by omega
        have q1 : ¬ (((64 * k : Nat) : Int) < (P.size : Int)) := by omega
        have hd8 := HSZ.out k
        have HDD := HD.out
        generalize digState P k = d at hrd hd8 HDD
        have HD2 := Lib.hid HDD
        clear HDD
        obtain ⟨ad, c, hv, hcc⟩ := hrd
        have hwl : (words d).length = 8 := by rw [words_length, hd8]
        rw [hwl] at hv
        subst hv
        have hrd : Rd wr (.slice ad 8 c) (words d) := ⟨ad, c, by rw [hwl], hcc⟩
        have hW8 := Lib.hid hwl
        have hD8 := Lib.hid hd8
        clear hcc hwl hd8
        go_wp2_with (fail)
        go_loopw [7, 8] (fun s i wr => ∃ j : Nat, j ≤ 8 ∧ i = .int .i64 j ∧ s = .string ⟨(stText d j).toArray⟩ ∧ Rd wr (.slice ad 8 c) (words d) ∧ Keys wr ∧ Starts wr ∧ Below w.heap.size w wr) (fun _ i _ => 8 - (intOf i).toNat)
        case atStart => exact ⟨0, by omega, rfl, by simp [stText], hrd, kk, ss, hB⟩
        case round =>
          clear hrd kk ss hB
          obtain ⟨j, hj, rfl, rfl, hrd, kk, ss, hB⟩ := hrel
          by_cases hlt8 : j < 8
          · have q : (j : Int) < 8 := by omega
            have q0 : (0 : Int) ≤ (j : Int) := by omega
            have hrd' := hrd
            obtain ⟨ad', c', he, hcc⟩ := hrd'
            injection he with e1 e2 e3
            subst e1
            obtain ⟨b, off, rfl, hc⟩ := hcc (by rw [hW8.out]; omega)
            have hcell := hc j (by rw [hW8.out]; exact hlt8)
            rw [words_get d j (by rw [hD8.out]; exact hlt8)] at hcell
            clear hc hcc e2 e3
            have cn := fun W => spec_num4 (d[j]!).toNat W (d[j]!).isLt
            have hstep := Lib.hid (st_step d j)
            have hsz : (⟨(stText d j).toArray⟩ : ByteArray).size + (⟨(numBytes d[j]!.toNat 4).toArray⟩ : ByteArray).size ≤ 9223372036854775807 := by
              show (stText d j).toArray.size + (numBytes d[j]!.toNat 4).toArray.size ≤ _
              rw [List.size_toArray, List.size_toArray, stText_length, numBytes_length]
              omega
            generalize (⟨(stText d j).toArray⟩ : ByteArray) = A at hstep hsz
            generalize (⟨(numBytes d[j]!.toNat 4).toArray⟩ : ByteArray) = N4 at hstep hsz cn
            generalize (d[j]!).toNat = x at hcell cn
            go_wp2_with (fail)
            with_reducible refine (cn _).mono ?_
            rintro e w5 ⟨rfl, hb5⟩
            have hrd5 := hrd.below hb5
            have k5 := kk.below hb5
            have s5 := ss.below hb5
            have hB5 := Below.then_ hB hb5
            clear hrd kk ss hB hb5 hcell cn
            go_wp2_with (fail)
            go_roundw
            case rel => exact ⟨j + 1, by omega, by go_num, by rw [hstep.out], hrd5, k5, s5, hB5⟩
            case measure => simp [intOf]; omega
          · obtain rfl : j = 8 := by omega
            have c1 := fun W a b => impl_digest T W (by omega) a b
            have c2 := fun W a b => impl_cut20 T W (by omega) a b
            have hlen : (digestOf T).size = 32 := digestOf_size T
            have hsl := slice_to (digestOf T) 20 (by omega)
            rw [show ((20 : Nat) : Int) = (20 : Int) from rfl] at hsl
            have q3 : ((digestOf T).size : Int) = 32 := by omega
            have q4 : (((digestOf T).size : Int) == 32) = true := by rw [q3]; rfl
            rw [← HD2.out]
            generalize (digestOf T).extract 0 20 = r at hsl c2
            clear hlen q3
            generalize digestOf T = D at hsl c1 c2 q4 ⊢
            clear hrd
            go_wp2_with (fail)
            have S0 := keep_tabsd ⟨kk, ss, hB⟩
            go_region_held3 (fun W => Keys W ∧ Starts W ∧ Below w.heap.size w W)
              (first | exact S0 | exact keep_tabs (by assumption) (by assumption) | go_keep)
              (first
                | (go_at_call 19; (with_reducible refine (c1 _ ?_ ?_).mono ?_); (simp only [*]); (simp only [*]); rintro e w6 ⟨rfl, hb6⟩)
                | (go_at_call 20; (with_reducible refine (c2 _ ?_ ?_).mono ?_); (simp only [*]); (simp only [*]); rintro e w7 ⟨rfl, hb7⟩))
            go_wp2_with (fail)
            go_ret
            have hh : Keys w7 ∧ Starts w7 ∧ Below w.heap.size w w7 := by assumption
            exact ⟨rfl, hh.2.2⟩
end Go.Proofs.YtlkhgamhhblmgaaDoor
