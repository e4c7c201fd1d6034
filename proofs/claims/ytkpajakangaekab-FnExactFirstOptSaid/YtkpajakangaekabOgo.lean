import Derived.Test.YtkpajakangaekabOfr
import Derived.Test.YtkpajakangaekabIntsL
import Derived.BigQuiet
import Derived.Deep.QuietTactic
namespace Go.Proofs.Ytkpajakangaekab
open Go.RowKit

/-- Each number is greater than the one before it. -/
def asc : List Int → Bool
  | x :: y :: r => decide (x < y) && asc (y :: r)
  | _ => true

theorem asc_iff (zs : List Int) : asc zs = true ↔ ∀ j (h : j + 1 < zs.length), zs[j] < zs[j + 1] := by
  induction zs with
  | nil => simp [asc]
  | cons x r ih =>
    cases r with
    | nil => simp [asc]
    | cons y r =>
      unfold asc
      rw [Bool.and_eq_true, decide_eq_true_eq, ih]
      constructor
      · rintro ⟨h0, h⟩ j hj
        cases j with
        | zero => simpa using h0
        | succ j => exact h j (by simpa using hj)
      · intro h
        exact ⟨by simpa using h 0 (by simp), fun j hj => h (j + 1) (by simpa using hj)⟩

theorem asc_no (zs : List Int) (j : Nat) (h : j + 1 < zs.length) (hn : ¬ zs[j] < zs[j + 1]) : asc zs = false := by
  cases hs : asc zs with
  | false => rfl
  | true => exact absurd ((asc_iff zs).1 hs j h) hn
attribute [irreducible] asc

set_option maxHeartbeats 1000000 in
theorem impl_asc (v : Value) (zs : List Int) (w : World) (hv : Rd w v zs) (hn : zs.length ≤ 1048576) :
    Calls Try.prog 120 #[v] w fun e w' => e = .returned (.bool (asc zs)) ∧ ∃ m, w' = w.drewN m := by
  obtain ⟨a, c, rfl, hc⟩ := hv
  generalize hr : asc zs = r
  have HR := Lib.hid hr
  clear hr
  go_enter Try.func120, Try.ntmps120
  go_wp2_with (fail)
  go_loopw [3] (fun i wr => ∃ k : Nat, i = .int .i64 ((k + 1 : Nat) : Int) ∧ k ≤ zs.length ∧ (∀ j (h : j + 1 < zs.length), j < k → zs[j] < zs[j + 1]) ∧ ∃ m, wr = w.drewN m) (fun i _ => zs.length + 1 - (intOf i).toNat)
  case atStart => exact ⟨0, rfl, by omega, fun j _ h => by omega, 0, rfl⟩
  case round =>
    obtain ⟨k, rfl, hk, hj, m, rfl⟩ := hrel
    obtain ⟨x, hx⟩ : ∃ x : Nat, k + 1 = x := ⟨_, rfl⟩
    rw [hx]
    by_cases hlt : x < zs.length
    · obtain ⟨b, off, rfl, hcc⟩ := hc (by omega)
      have hk1 : k < zs.length := by omega
      have hlk : k + 1 < zs.length := by omega
      have h1 := hcc x hlt
      have h2 := hcc k hk1
      have q : (x : Int) < (zs.length : Int) := by omega
      have q2 : (0 : Int) ≤ (x : Int) - 1 ∧ (x : Int) - 1 < (zs.length : Int) ∧ (1 : Int) ≤ (x : Int) := by omega
      have e1 : IntKind.i64.wrap ((x : Int) - 1) = (k : Int) := by rw [IntWalk.i64_in _ (by omega)]; omega
      have e1' : (x : Int) - 1 = (k : Int) := by omega
      have e2 : ((x : Int) - 1).toNat = k := by omega
      have q3 : (0 : Int) ≤ (k : Int) ∧ (k : Int) < (zs.length : Int) := by omega
      have hx2 : zs[x]'hlt = zs[k + 1]'hlk := by simp [hx]
      have HX := Lib.hid hx
      have HJ := Lib.hid hj
      clear hj hc hcc
      by_cases hle : zs[k]'hk1 < zs[k + 1]'hlk
      · have q4 : ¬ zs[x]'hlt ≤ zs[k]'hk1 := by rw [hx2]; omega
        have hb : decide (zs[x]'hlt ≤ zs[k]'hk1) = false := decide_eq_false q4
        have HL := Lib.hid hle
        clear hx2 hle
        generalize zs[x]'hlt = y1 at h1 q4 hb
        generalize zs[k]'hk1 = y2 at h2 q4 hb
        clear hx
        go_wp2_with (fail)
        go_quiet (fail)
        go_wp2_with (fail)
        go_roundw
        case rel => exact ⟨x, by go_num, by omega, fun j h hjk => by
          by_cases hjx : j < k
          · exact HJ.out j h hjx
          · have hjk2 : j = k := by have := HX.out; omega
            subst hjk2
            exact HL.out, _, by first | rfl | exact World.drewN_drewN _ _ _⟩
        case measure => simp [intOf]; omega
      · have q4 : zs[x]'hlt ≤ zs[k]'hk1 := by rw [hx2]; omega
        have hb : decide (zs[x]'hlt ≤ zs[k]'hk1) = true := decide_eq_true q4
        have hno := asc_no zs k hlk hle
        have HN := Lib.hid hno
        clear hx2 hle hno
        generalize zs[x]'hlt = y1 at h1 q4 hb
        generalize zs[k]'hk1 = y2 at h2 q4 hb
        clear hx
        go_wp2_with (fail)
        go_quiet (fail)
        go_wp2_with (fail)
        go_ret
        exact ⟨by rw [← HR.out, HN.out]; rfl, _, by first | rfl | exact World.drewN_drewN _ _ _⟩
    · have q : ¬ (x : Int) < (zs.length : Int) := by omega
      have hall := (asc_iff zs).2 fun j h => hj j h (by omega)
      have HN := Lib.hid hall
      clear hall hj hx
      go_wp2_with (fail)
      go_ret
      exact ⟨by rw [← HR.out, HN.out]; rfl, _, rfl⟩

/-- The texts of Ids, the first k written. -/
def idTx (zs : List Int) (k : Nat) : List ByteArray := (zs.take k).map (fun z => numText z 1) ++ List.replicate (zs.length - k) ⟨#[]⟩

theorem idTx_length (zs : List Int) (k : Nat) (h : k ≤ zs.length) : (idTx zs k).length = zs.length := by
  unfold idTx; rw [List.length_append, List.length_map, List.length_take, List.length_replicate]; omega
theorem idTx_zero (zs : List Int) : idTx zs 0 = List.replicate zs.length ⟨#[]⟩ := by simp [idTx]
theorem idTx_end (zs : List Int) : idTx zs zs.length = zs.map (fun z => numText z 1) := by simp [idTx]
theorem idTx_succ (zs : List Int) (k : Nat) (h : k < zs.length) : (idTx zs k).set k (numText zs[k] 1) = idTx zs (k + 1) := by
  unfold idTx
  have hl : ((zs.take k).map (fun z => numText z 1)).length = k := by rw [List.length_map, List.length_take]; omega
  rw [List.set_append_right _ _ (by omega), hl, Nat.sub_self, show zs.length - k = (zs.length - (k + 1)) + 1 by omega, List.replicate_succ, List.set_cons_zero, List.take_succ_eq_append_getElem h, List.map_append, List.append_assoc]
  rfl
attribute [irreducible] idTx

theorem infoS : (Try.prog.info? 9).map (fun i => (i.zero, i.size, i.bytes)) = some (some (.string ⟨#[]⟩), 1, 16) := by kernel_rfl

theorem make_strs (n : Nat) (hn : n ≤ 1048576) (W : World) :
    (Instr.makeSlice 103 (.int .i64 (n : Int)) (.int .i64 (n : Int))).run Try.prog W = .ok (.slice (some ⟨W.heap.size, 0, none⟩) n n) (W.alloc (.cells ((List.replicate n (⟨#[]⟩ : ByteArray)).map Value.string).toArray 9)) := by
  obtain ⟨i0, hi, hz0, hz1, hz2⟩ := info_parts infoS
  have h := run_makeSlice (P := Try.prog) W 103 9 i0 _ Try.underlying103 hi hz0 .i64 .i64 (n : Int) (n : Int) (by omega) (by omega) (by rw [hz1]; omega) (by rw [hz2]; omega) (by omega)
  rw [h, hz1]
  have e : madeCells (Value.string ⟨#[]⟩).cells (Int.toNat (n : Int) * 1) = ((List.replicate n (⟨#[]⟩ : ByteArray)).map Value.string).toArray := by
    apply Array.ext
    · simp [madeCells]
    · intro i h1 h2
      simp [madeCells, Value.cells, Nat.mod_one]
  rw [e]
  simp

/-- The fields of an option that takes Ids away. -/
def goneTx (zs : List Int) : ByteArray := if 1 ≤ zs.length ∧ zs.length ≤ 8 ∧ asc zs = true then rowOf (zs.map fun z => numText z 1) else ⟨#[]⟩

theorem sum_le (xs : List ByteArray) (m : Nat) (h : ∀ x ∈ xs, x.size ≤ m) : (xs.map (·.size)).sum ≤ m * xs.length := by
  induction xs with
  | nil => simp
  | cons x r ih =>
    have h1 := h x (by simp)
    have h2 := ih (fun y hy => h y (by simp [hy]))
    simp only [List.map_cons, List.sum_cons, List.length_cons, Nat.mul_add, Nat.mul_one]
    omega

set_option maxHeartbeats 1000000 in
theorem ft_gone (v : Value) (zs : List Int) (w : World) (hv : Rd w v zs) (hn : zs.length ≤ 1048576) :
    Calls Try.prog 119 #[.agg #[v]] w fun e w' => e = .returned (.string (goneTx zs)) ∧ Below w.heap.size w w' := by
  have hB := below_new w (.cells #[v] 99)
  have hC : Cel (w.alloc (.cells #[v] 99)) w.heap.size 99 #[v] := Cel.new _ _ _
  have hr := hv.below hB
  obtain ⟨va, vc, rfl⟩ : ∃ x c, v = .slice x zs.length c := by obtain ⟨x, c, h, -⟩ := hv; exact ⟨x, c, h⟩
  have hv0 := Lib.hid hv
  clear hv
  have ca := impl_asc (.slice va zs.length vc) zs _ hr hn
  have l0 := hC.cell 0
  generalize hg : goneTx zs = gt
  have HG := Lib.hid hg
  clear hg
  by_cases h1 : zs.length < 1
  · have q : (zs.length : Int) < 1 := by omega
    go_enter Try.func119, Try.ntmps119
    go_wp2_with (fail)
    go_ret
    exact ⟨by rw [← HG.out]; unfold goneTx; rw [if_neg (by omega)]; rfl, hB⟩
  by_cases h8 : 8 < zs.length
  · have q : ¬ (zs.length : Int) < 1 := by omega
    have q2 : (8 : Int) < (zs.length : Int) := by omega
    go_enter Try.func119, Try.ntmps119
    go_wp2_with (fail)
    go_ret
    exact ⟨by rw [← HG.out]; unfold goneTx; rw [if_neg (by omega)]; rfl, hB⟩
  have q : ¬ (zs.length : Int) < 1 := by omega
  have q2 : ¬ (8 : Int) < (zs.length : Int) := by omega
  cases hs : asc zs with
  | false =>
    rw [hs] at ca
    have HS := Lib.hid hs
    clear hs
    go_enter Try.func119, Try.ntmps119
    go_wp2_with (fail)
    with_reducible refine ca.mono ?_
    rintro e w1 ⟨rfl, m, rfl⟩
    go_wp2_with (fail)
    go_ret
    exact ⟨by rw [← HG.out]; unfold goneTx; rw [if_neg (by rw [HS.out]; simp)]; rfl, ⟨hB.os, hB.tape, hB.output, hB.size, hB.block⟩⟩
  | true =>
    rw [hs] at ca
    have HS := Lib.hid hs
    clear hs
    have hrow : goneTx zs = rowOf (zs.map fun z => numText z 1) := by unfold goneTx; rw [if_pos ⟨by omega, by omega, HS.out⟩]
    have HG2 := Lib.hid (hrow.symm.trans HG.out)
    clear hrow HG HS
    go_enter Try.func119, Try.ntmps119
    go_wp2_with (fail)
    with_reducible refine ca.mono ?_
    rintro e w1 ⟨rfl, m, rfl⟩
    have hB1 : Below w.heap.size w ((w.alloc (.cells #[.slice va zs.length vc] 99)).drewN m) := ⟨hB.os, hB.tape, hB.output, hB.size, hB.block⟩
    have hC1 : Cel ((w.alloc (.cells #[.slice va zs.length vc] 99)).drewN m) w.heap.size 99 #[.slice va zs.length vc] := hC
    clear hB hC hr l0 ca
    have l1 := hC1.cell 0
    generalize (w.alloc (.cells #[.slice va zs.length vc] 99)).drewN m = W1 at *
    have hmk := make_strs zs.length hn W1
    have hB2 := hB1.alloc hB1.size (.cells ((List.replicate zs.length (⟨#[]⟩ : ByteArray)).map Value.string).toArray 9)
    have hD : Cel (W1.alloc (.cells ((List.replicate zs.length (⟨#[]⟩ : ByteArray)).map Value.string).toArray 9)) W1.heap.size 9 ((idTx zs 0).map Value.string).toArray := by rw [idTx_zero]; exact Cel.new _ _ _
    have hC2 := hC1.alloc (.cells ((List.replicate zs.length (⟨#[]⟩ : ByteArray)).map Value.string).toArray 9)
    have l2 := hC2.cell 0
    have hgl := hC1.lt
    have hws := hB1.size
    clear hB1 hC1 hC2
    generalize W1.alloc (.cells ((List.replicate zs.length (⟨#[]⟩ : ByteArray)).map Value.string).toArray 9) = W2 at *
    generalize W1.heap.size = gp at *
    go_wp2_with (fail)
    clear l1 l2 hmk
    go_loopw [29] (fun i wr => ∃ k : Nat, k ≤ zs.length ∧ i = .int .i64 k ∧ Cel wr gp 9 ((idTx zs k).map Value.string).toArray ∧ Below w.heap.size w wr) (fun i _ => zs.length - (intOf i).toNat)
    case atStart => exact ⟨0, by omega, rfl, hD, hB2⟩
    case round =>
      clear hD hB2
      obtain ⟨k, hk, rfl, hD, hB⟩ := hrel
      have hr := hv0.out.below hB
      by_cases hlt : k < zs.length
      · have hr0 := hr
        obtain ⟨a', c', he, hc⟩ := hr0
        injection he with e1 e2 e3
        subst e1 e3
        obtain ⟨b, off, rfl, hcc⟩ := hc (by omega)
        have h1 := hcc k hlt
        have hsu := idTx_succ zs k hlt
        generalize zs[k] = z at h1 hsu
        have q3 : (0 : Int) ≤ (k : Int) ∧ (k : Int) < (zs.length : Int) := by omega
        have cn := fun W => impl_numText z 1 W
        generalize numText z 1 = t at cn hsu
        have HSU := Lib.hid hsu
        clear hc hcc hsu
        go_wp2_with (fail)
        with_reducible refine (cn _).mono ?_
        rintro e w3 ⟨rfl, hb3⟩
        have hD3 := hD.kept hb3
        have hlen := idTx_length zs k hk
        have hc3 := hD3.cell k
        have hck : (((idTx zs k).map Value.string).toArray)[k]? = some (.string ((idTx zs k)[k]'(by omega))) := by simp [hlen, hlt]
        rw [hck] at hc3
        generalize (idTx zs k)[k]'_ = y at hc3
        have hf3 := hD3.frozen k
        have hset := hD3.set k (.string t)
        rw [show (((idTx zs k).map Value.string).toArray).setIfInBounds k (.string t) = ((idTx zs (k + 1)).map Value.string).toArray by rw [← HSU.out, List.map_set, List.setIfInBounds_toArray]] at hset
        have hb4 := (Below.then_ hB hb3).setCell (p := ⟨gp, k, none⟩) (by show w.heap.size ≤ gp; omega) (.string t)
        clear hD hr hB hb3 hD3 hck hlen cn
        go_wp2_with (fail)
        go_roundw
        case rel => exact ⟨k + 1, by omega, by go_num, hset, hb4⟩
        case measure => simp [intOf]; omega
      · obtain rfl : k = zs.length := by omega
        have q3 : ¬ ((zs.length : Int) < (zs.length : Int)) := by omega
        rw [idTx_end] at hD
        have hv : VRd wr (.slice (some ⟨gp, 0, none⟩) zs.length zs.length) (strCs (zs.map fun z => numText z 1)) := by
          refine ⟨some ⟨gp, 0, none⟩, zs.length, by rw [strCs_length, List.length_map], fun _ => ⟨gp, 0, rfl, fun j hj => ?_⟩⟩
          rw [hD.cell (0 + j), Nat.zero_add]
          have hj2 : j < zs.length := by rw [strCs_length, List.length_map] at hj; exact hj
          simp [strCs, hj2]
        have cr := impl_inarow (.slice (some ⟨gp, 0, none⟩) zs.length zs.length) (zs.map fun z => numText z 1) wr hv ⟨_, _, by rw [List.length_map], by simp⟩ (by rw [List.length_map]; exact hn) (by
          rw [joinOf_size]
          have := sum_le (zs.map fun z => numText z 1) 6 (fun x hx => by obtain ⟨z, _, rfl⟩ := List.mem_map.1 hx; exact numTx_le z 1)
          rw [List.length_map] at this
          omega)
        rw [HG2.out] at cr
        clear hD hr hv
        go_wp2_with (fail)
        with_reducible refine cr.mono ?_
        rintro e w5 ⟨rfl, hb5⟩
        go_wp2_with (fail)
        go_ret
        exact ⟨rfl, Below.then_ hB hb5⟩
end Go.Proofs.Ytkpajakangaekab
