import Derived.Test.YtkpajakangaekabMgG
import Derived.Test.YtkpajakangaekabMgJ
import Derived.Test.YtkpajakangaekabRow1
import Derived.Lib.ItoaNum
import Derived.WalkSpells
import Derived.IntWalk
import Derived.Laws.BytesArg
namespace Go.Proofs.Ytkpajakangaekab
open Go.RowKit
attribute [-go_sem] loadCells loadCellsFrom

/-- In the middle of one option's cells: the first ones are written anew, all else is as it was. -/
structure Mid (w W : World) (B g n j : Nat) (vs : List Value) : Prop where
  bel : Below B w W
  oth : ∀ i, i < w.heap.size → i ≠ g → W.heap[i]? = w.heap[i]?
  th : W.there g 0 (n * 14)
  now : W.rangeAt g (j * 14) vs
  far : ∀ i o u, i ≠ j → ORow w g (i * 14) o u → ORow W g (i * 14) o u
  tail : ∀ c, vs.length ≤ c → c < 14 → W.cell? ⟨g, j * 14 + c, none⟩ = w.cell? ⟨g, j * 14 + c, none⟩

theorem Mid.start {w : World} {B g n : Nat} (j : Nat) (h : w.there g 0 (n * 14)) : Mid w w B g n j [] :=
  ⟨Below.refl _ _, fun _ _ _ => rfl, h, fun j v hv => by simp at hv, fun _ _ _ _ h => h, fun _ _ _ => rfl⟩

theorem Mid.at {w W : World} {B g n j : Nat} {vs : List Value} (h : Mid w W B g n j vs) (hj : j < n) (c : Nat) (hc : c < 14) : ∃ y, W.cell? ⟨g, j * 14 + c, none⟩ = some y ∧ W.frozen? ⟨g, j * 14 + c, none⟩ = false := by
  have h1 := h.th (j * 14 + c) (by omega)
  rw [Nat.zero_add] at h1
  obtain ⟨y, hy⟩ := Option.isSome_iff_exists.1 h1.1
  exact ⟨y, hy, h1.2⟩

theorem Mid.step {w W : World} {B g n j : Nat} {vs : List Value} (h : Mid w W B g n j vs) (hB : B ≤ g) (hj : j < n) (hv : vs.length < 14) (x : Value) : Mid w (W.setCell ⟨g, j * 14 + vs.length, none⟩ x) B g n j (vs ++ [x]) := by
  have hs : W.setCell ⟨g, j * 14 + vs.length, none⟩ x = W.setCells g (j * 14 + vs.length) [x] := rfl
  have hth1 : W.there g (j * 14 + vs.length) [x].length := there_sub h.th _ (by simp; omega)
  have h1 := World.rangeAt_setCells_same W g (j * 14 + vs.length) [x] hth1
  have h2 := World.rangeAt_setCells_apart h.now g (j * 14 + vs.length) [x] (.inr (.inl (Nat.le_refl _)))
  rw [hs]
  refine ⟨h.bel.trans (setCells_below g B hB [x] _ W), fun i hi hg => by rw [setCells_other g [x] _ W i hg]; exact h.oth i hi hg, World.there_setCells h.th g _ [x], ?_, fun i o u hij hr => (h.far i o u hij hr).apart _ _ (by
    right
    show i * 14 + 14 ≤ j * 14 + vs.length ∨ j * 14 + vs.length + 1 ≤ i * 14
    omega), ?_⟩
  · intro q y hq
    rw [List.getElem?_append] at hq
    by_cases hl : q < vs.length
    · rw [if_pos hl] at hq
      exact h2 q y hq
    · rw [if_neg hl] at hq
      have h3 := h1 (q - vs.length) y hq
      rw [← h3]
      congr 2
      omega
  · intro c hc1 hc2
    rw [List.length_append] at hc1
    rw [← h.tail c (by simp at hc1; omega) hc2]
    exact World.cell?_setCells_out g [x] _ W ⟨g, j * 14 + c, none⟩ (fun _ _ => by simp at hc1 ⊢; omega)

theorem Mid.kept {w W W' : World} {B g n j : Nat} {vs : List Value} (h : Mid w W B g n j vs) (hb : Below W.heap.size W W') (hg : g < w.heap.size) (hB : B ≤ w.heap.size) : Mid w W' B g n j vs := by
  have hsz := h.bel.size
  have e : W'.heap[g]? = W.heap[g]? := hb.block g (by omega)
  refine ⟨h.bel.trans (hb.mono (by omega)), fun i hi hne => by rw [hb.block i (by omega)]; exact h.oth i hi hne, there_below h.th hb (by omega), fun q y hq => ?_, fun i o u hij hr => (h.far i o u hij hr).block e, fun c h1 h2 => ?_⟩
  · rw [World.cell?_of_block (a := ⟨g, j * 14 + q, none⟩) e]; exact h.now q y hq
  · rw [World.cell?_of_block (a := ⟨g, j * 14 + c, none⟩) e]; exact h.tail c h1 h2
end Go.Proofs.Ytkpajakangaekab

namespace Go.Proofs.Ytkpajakangaekab
open Go.RowKit

/-- The digits that are still to come, none of zero. -/
def dg (v : Nat) : List UInt8 := if v = 0 then [] else Lib.decDigits v

theorem dg_step (v : Nat) (h : 0 < v) : dg v = dg (v / 10) ++ [UInt8.ofNat (48 + v % 10)] := by
  unfold dg
  rw [if_neg (by omega), Lib.decDigits]
  split
  · rename_i h10
    rw [if_pos (by omega), Nat.mod_eq_of_lt h10]; rfl
  · rw [if_neg (by omega)]

/-- A block of one byte, made a string. -/
theorem conv_single {P : Program} {w : World} {src e dst : TypeId} {n : Int} (hs : P.underlying src = some (.slice e)) (he : P.underlying e = some (.int .u8)) (hd : P.underlying dst = some .string) (t : TypeId) :
    (convert src dst (.slice (some ⟨w.heap.size, 0, none⟩) 1 1)).run P (w.alloc (.cells #[.int .u8 n] t)) = .ok (.string (strOfNums [n])) (w.alloc (.cells #[.int .u8 n] t)) := by
  refine run_convert_bytes_arg _ src e hs he w.heap.size 0 1 1 [n] rfl (fun i hi => ?_) dst hd
  obtain rfl : i = 0 := by omega
  rw [World.cell?_alloc_at _ _ _ _ rfl]; rfl

theorem dg_len (u : Nat) (h : u < 18446744073709551616) : (Lib.decDigits u).length ≤ 20 := by
  rw [Lib.decDigits_length]
  by_cases h1 : 1 ≤ u
  · have := Lib.numDigits_eq u h1 h
    split at this <;> omega
  · rw [Lib.nDigits_small (by omega)]; omega

theorem dg_size {v u : Nat} {s : ByteArray} (h : dg v ++ s.data.toList = Lib.decDigits u) (h20 : (Lib.decDigits u).length ≤ 20) : s.size ≤ 20 := by
  have := congrArg List.length h
  simp only [List.length_append, Array.length_toList] at this
  have e : s.size = s.data.size := rfl
  omega

theorem dg_next {v u : Nat} {s : ByteArray} (h0 : ¬ v = 0) (h : dg v ++ s.data.toList = Lib.decDigits u) :
    dg (v / 10) ++ (strOfNums [48 + (v : Int) % 10] ++ s).data.toList = Lib.decDigits u := by
  rw [← h, dg_step v (by omega)]
  have e : (48 + (v : Int) % 10).toNat = 48 + v % 10 := by omega
  have e1 : strOfNums [48 + (v : Int) % 10] = ⟨#[UInt8.ofNat (48 + v % 10)]⟩ := by unfold strOfNums; simp only [List.map_cons, List.map_nil, e]
  rw [e1]
  simp [ByteArray.data_append]

/-- The text of a mark. -/
def mtext (k : Nat) : ByteArray := ⟨(109 :: Lib.decDigits k).toArray⟩

theorem mtext_of {v u : Nat} {s : ByteArray} (h0 : v = 0) (h : dg v ++ s.data.toList = Lib.decDigits u) : (⟨#[109]⟩ : ByteArray) ++ s = mtext u := by
  have e : s.data.toList = Lib.decDigits u := by rw [← h, dg, if_pos h0]; rfl
  apply ByteArray.ext
  apply Array.ext'
  rw [ByteArray.data_append, Array.toList_append, e]
  rfl

set_option maxRecDepth 100000 in
set_option maxHeartbeats 800000 in
theorem mark_text (u : Nat) (w : World) (h1 : 1 ≤ u) (h2 : u ≤ 9223372036854775807) :
    Calls Try.prog 72 #[.int .i64 (u : Int)] w fun e w' => e = .returned (.string (mtext u)) ∧ Below w.heap.size w w' := by
  have hle : ¬ ((u : Int) ≤ 0) := by omega
  have hd20 := dg_len u (by omega)
  go_enter Try.func72, Try.ntmps72
  go_wp2
  clear hle
  go_loopw [0, 3] (fun n sv wr => ∃ (v : Nat) (s : ByteArray), v ≤ u ∧ n = .int .i64 (v : Int) ∧ sv = .string s ∧ dg v ++ s.data.toList = Lib.decDigits u ∧ Below w.heap.size w wr) (fun n _ _ => (intOf n).natAbs)
  case atStart => exact ⟨u, ByteArray.empty, by omega, rfl, rfl, by simp [dg]; omega, Below.refl _ _⟩
  case round =>
    obtain ⟨v, s, hv, rfl, rfl, hdd, hnx⟩ := hrel
    have hs20 : s.size ≤ 20 := dg_size hdd hd20
    have Hdd := Lib.hid hdd
    clear hdd
    by_cases h0 : v = 0
    · have q : ¬ (0 : Int) < (v : Int) := by omega
      have hsz : ByteArray.size { data := #[109] } + s.size ≤ 9223372036854775807 := by show 1 + s.size ≤ _; omega
      go_wp2
      go_ret
      exact ⟨by rw [mtext_of h0 Hdd.out]; rfl, hnx⟩
    · have q : (0 : Int) < (v : Int) := by omega
      have hone : (strOfNums [48 + (v : Int) % 10]).size = 1 := rfl
      have hsz : (strOfNums [48 + (v : Int) % 10]).size + s.size ≤ 9223372036854775807 := by omega
      clear hone
      have e1 : (v : Int).tmod 10 = (v : Int) % 10 := Int.tmod_eq_emod_of_nonneg (by omega)
      have e2 : (v : Int).tdiv 10 = (v : Int) / 10 := Int.tdiv_eq_ediv_of_nonneg (by omega)
      have hcv := fun w => conv_single (P := Try.prog) (w := w) (n := 48 + (v : Int) % 10) Try.underlying22 Try.underlying5 Try.underlying9 5
      go_wp2
      go_roundw
      case rel => exact ⟨v / 10, _, by omega, by go_num, rfl, dg_next h0 Hdd.out, hnx.alloc (hnx.size) _⟩
      case measure => simp [intOf]; omega

end Go.Proofs.Ytkpajakangaekab

namespace Go.Proofs.Ytkpajakangaekab
open Go.RowKit
attribute [-go_sem] loadCells loadCellsFrom

def sumI : List Ov → Nat
  | [] => 0
  | o :: r => o.ids.length + sumI r

theorem sumI_take (os : List Ov) (j : Nat) (h : j < os.length) : sumI (os.take (j + 1)) = sumI (os.take j) + os[j].ids.length := by
  induction os generalizing j with
  | nil => simp at h
  | cons o r ih =>
    cases j with
    | zero => simp [sumI]
    | succ j =>
      simp only [List.take_succ_cons, sumI, List.getElem_cons_succ]
      rw [ih j (by simpa using h)]
      omega
theorem sumI_le (os : List Ov) (j : Nat) : sumI (os.take j) ≤ sumI os := by
  induction os generalizing j with
  | nil => simp [sumI]
  | cons o r ih =>
    cases j with
    | zero => simp [sumI]
    | succ j =>
      simp only [List.take_succ_cons, sumI]
      have := ih j
      omega
theorem sumI_sz (os : List Ov) (l : Int) (h0 : 0 ≤ l) (h : ¬ szGo os l < 0) : (sumI os : Int) ≤ l := by
  induction os generalizing l with
  | nil => simpa [sumI] using h0
  | cons o r ih =>
    unfold szGo at h
    by_cases h1 : szOv o l < 0
    · rw [if_pos h1] at h; exact absurd (by decide) h
    · rw [if_neg h1] at h
      obtain ⟨s0, s1, s2, s3, s4⟩ := szOv_in o l h1
      have h2 := ih _ s0 h
      have h3 : szOv o l + (o.ids.length : Int) ≤ l := by
        unfold szOv at h1 ⊢
        split
        · rename_i hq; omega
        · rename_i hq; rw [if_neg hq] at h1; exact absurd (by decide) h1
      simp only [sumI]
      omega
theorem sumI_L (os : List Ov) (l : Int) (h : ¬ szL os l < 0) : (sumI os : Int) ≤ l := by
  unfold szL at h
  by_cases h1 : l - (os.length : Int) < 0
  · rw [if_pos h1] at h; exact absurd (by decide) h
  · rw [if_neg h1] at h
    have := sumI_sz os _ (by omega) h
    omega

/-- Where the rows of options and of their Ids lie. -/
structure Lie (w : World) (B C g n : Nat) (us : Nat → Value) : Prop where
  lo : B ≤ g
  hi : g < C
  hC : C ≤ w.heap.size
  ne : ∀ j, j < n → (us j).ownBlock ≠ some g
  sep : ∀ i j, i < j → j < n → ∀ x, (us i).ownBlock = some x → (us j).ownBlock ≠ some x

/-- While options are marked: nothing but them and their Ids changes. -/
structure Wk (w W : World) (B C g n : Nat) (us : Nat → Value) (len : Nat → Nat) : Prop where
  bel : Below B w W
  out : ∀ i, i < w.heap.size → ¬ (B ≤ i ∧ i < C) → W.heap[i]? = w.heap[i]?
  th : W.there g 0 (n * 14)
  sl : ∀ j, j < n → W.cell? ⟨g, j * 14 + 13, none⟩ = some (us j)
  ids : ∀ j, j < n → ∃ zs : List Int, zs.length = len j ∧ IRow W B C (us j) zs

theorem OwnO.lies {W : World} {B C g : Nat} {os : List Ov} {us : Nat → Value} (h : OwnO W B C g os us) (hC : C ≤ W.heap.size) : Lie W B C g os.length us := ⟨h.lo, h.hi, hC, h.ne, h.sep⟩

theorem OwnO.wk {W : World} {B C g : Nat} {os : List Ov} {us : Nat → Value} (h : OwnO W B C g os us) (len : Nat → Nat) (hl : ∀ j (hj : j < os.length), len j = os[j].ids.length) : Wk W W B C g os.length us len :=
  ⟨Below.refl _ _, fun _ _ _ => rfl, h.th, fun j hj => h.row j hj 13 _ (by rw [Array.getElem?_toList]; exact (Ov.ats _ _).2.2.2.2.2.2.2.2.2.2.2.2.2), fun j hj => ⟨_, (hl j hj).symm, h.ids j hj⟩⟩

section
variable {w W W' : World} {B C g n : Nat} {us : Nat → Value} {len : Nat → Nat}

theorem Wk.at (h : Wk w W B C g n us len) (j c : Nat) (hj : j < n) (hc : c < 14) : ∃ y, W.cell? ⟨g, j * 14 + c, none⟩ = some y ∧ W.frozen? ⟨g, j * 14 + c, none⟩ = false := by
  have h1 := h.th (j * 14 + c) (by omega)
  rw [Nat.zero_add] at h1
  obtain ⟨y, hy⟩ := Option.isSome_iff_exists.1 h1.1
  exact ⟨y, hy, h1.2⟩

theorem Wk.step (h : Wk w W B C g n us len) (L : Lie w B C g n us) (j c : Nat) (_hj : j < n) (hc : c < 13) (x : Value) : Wk w (W.setCell ⟨g, j * 14 + c, none⟩ x) B C g n us len := by
  have hs : W.setCell ⟨g, j * 14 + c, none⟩ x = W.setCells g (j * 14 + c) [x] := rfl
  rw [hs]
  refine ⟨h.bel.trans (setCells_below g B L.lo [x] _ W), fun i hi hne => ?_, World.there_setCells h.th g _ [x], fun j' hj' => ?_, fun j' hj' => ?_⟩
  · have := L.lo
    have := L.hi
    rw [setCells_other g [x] _ W i (by omega)]
    exact h.out i hi hne
  · rw [World.cell?_setCells_out g [x] _ W ⟨g, j' * 14 + 13, none⟩ (fun _ _ => by simp; omega)]
    exact h.sl j' hj'
  · obtain ⟨zs, h1, h2⟩ := h.ids j' hj'
    exact ⟨zs, h1, h2.keepAt (fun k hk => setCells_other g [x] _ W k (fun e => L.ne j' hj' (by rw [hk, e])))⟩

theorem Wk.pass (h : Wk w W B C g n us len) (L : Lie w B C g n us) (j c : Nat) (hj : j < n) (hc : c < 13) {Q : World → Prop} {x : Value} (hq : ∀ V, Wk w V B C g n us len → Q V) : Q (W.setCell ⟨g, j * 14 + c, none⟩ x) :=
  hq _ (h.step L j c hj hc x)

theorem Wk.kept (h : Wk w W B C g n us len) (L : Lie w B C g n us) (hb : Below W.heap.size W W') : Wk w W' B C g n us len := by
  have hz := h.bel.size
  have q1 := L.lo
  have q2 := L.hi
  have q3 := L.hC
  have e : W'.heap[g]? = W.heap[g]? := hb.block g (by omega)
  refine ⟨h.bel.trans (hb.mono (by omega)), fun i hi hne => by rw [hb.block i (by omega)]; exact h.out i hi hne, there_below h.th hb (by omega), fun j hj => ?_, fun j hj => ?_⟩
  · rw [World.cell?_of_block (a := ⟨g, j * 14 + 13, none⟩) e]; exact h.sl j hj
  · obtain ⟨zs, h1, h2⟩ := h.ids j hj
    exact ⟨zs, h1, h2.keep hb (by omega)⟩

theorem Wk.ints (h : Wk w W B C g n us len) (L : Lie w B C g n us) (j : Nat) (hj : j < n) {zs : List Int} (hl : zs.length = len j) (hr : IRow W' B C (us j) zs) (hb : Below B W W') (ho : ∀ i, (us j).ownBlock ≠ some i → W'.heap[i]? = W.heap[i]?) : Wk w W' B C g n us len := by
  have e : W'.heap[g]? = W.heap[g]? := ho g (L.ne j hj)
  refine ⟨h.bel.trans hb, fun i hi hne => ?_, fun c hc => ?_, fun j' hj' => ?_, fun j' hj' => ?_⟩
  · rw [ho i (fun hk => hne (hr.block i hk))]
    exact h.out i hi hne
  · have h1 := h.th c hc
    constructor
    · rw [World.cell?_of_block (a := ⟨g, 0 + c, none⟩) e]; exact h1.1
    · rw [World.frozen?_of_block (a := ⟨g, 0 + c, none⟩) e]; exact h1.2
  · rw [World.cell?_of_block (a := ⟨g, j' * 14 + 13, none⟩) e]; exact h.sl j' hj'
  · by_cases hjj : j' = j
    · subst hjj; exact ⟨zs, hl, hr⟩
    · obtain ⟨ys, h1, h2⟩ := h.ids j' hj'
      refine ⟨ys, h1, h2.keepAt (fun k hk => ho k (fun hk' => ?_))⟩
      rcases Nat.lt_or_gt_of_ne hjj with hlt | hlt
      · exact L.sep j' j hlt hj k hk hk'
      · exact L.sep j j' hlt hj' k hk' hk
end

theorem irow_form0 {W : World} {B C : Nat} {v : Value} {zs : List Int} (h : IRow W B C v zs) : ∃ a c, v = .slice a zs.length c := by
  obtain ⟨a, c, e, -⟩ := h.rd
  exact ⟨a, c, e⟩

set_option maxRecDepth 100000 in
set_option maxHeartbeats 16000000 in
set_option linter.unusedSimpArgs false in
theorem mark_optS (os : List Ov) (us : Nat → Value) (w : World) (B C g k cap : Nat) (h : OwnO w B C g os us) (hC : C ≤ w.heap.size) (hn : os.length ≤ 1048576) (hs : sumI os ≤ 1048576) (h1 : 1 ≤ k) (hk : k ≤ 1048576) :
    Calls Try.prog 54 #[.slice (some ⟨g, 0, none⟩) os.length cap, .int .i64 (k : Int)] w fun e w' => (∃ q : Nat, e = .returned (.int .i64 (q : Int))) ∧ Below B w w' ∧ ∀ i, i < w.heap.size → ¬ (B ≤ i ∧ i < C) → w'.heap[i]? = w.heap[i]? := by
  have L := h.lies hC
  have K0 := Lib.hid (h.wk (fun j => (os.getD j Ov.zero).ids.length) (fun j hj => by simp [List.getD_eq_getElem?_getD, hj]))
  clear h
  go_enter Try.func54, Try.ntmps54
  go_wp2_with (fail)
  go_loopw [1, 5] (fun m i wr => ∃ j k0 : Nat, j ≤ os.length ∧ k0 = k + 13 * j + sumI (os.take j) ∧ m = .int .i64 (k0 : Int) ∧ i = .int .i64 (j : Int) ∧ Wk w wr B C g os.length us (fun j => (os.getD j Ov.zero).ids.length)) (fun _ i _ => os.length - (intOf i).toNat)
  case atStart => exact ⟨0, k, Nat.zero_le _, by simp [sumI], rfl, rfl, K0.out⟩
  case round =>
    clear K0
    obtain ⟨j, k0, hj, hk0, rfl, rfl, K⟩ := hrel
    replace K := Lib.hid K
    by_cases hlt : j < os.length
    · have q1 : (j : Int) < (os.length : Int) := by omega
      have q2 : (0 : Int) ≤ (j : Int) := by omega
      have hsl := sumI_le os j
      have hst := sumI_take os j hlt
      have hsl2 := sumI_le os (j + 1)
      have hkb : k0 ≤ 1048576 + 14 * 1048576 := by omega
      obtain ⟨k1, hk1⟩ : ∃ z, z = k0 + 1 := ⟨_, rfl⟩
      have x1 : IntKind.i64.wrap ((k0 : Int) + 1) = (k1 : Int) := by rw [hk1, IntWalk.i64_in _ (by omega)]; omega
      obtain ⟨k2, hk2⟩ : ∃ z, z = k1 + 1 := ⟨_, rfl⟩
      have x2 : IntKind.i64.wrap ((k1 : Int) + 1) = (k2 : Int) := by rw [hk2, IntWalk.i64_in _ (by omega)]; omega
      obtain ⟨k3, hk3⟩ : ∃ z, z = k2 + 1 := ⟨_, rfl⟩
      have x3 : IntKind.i64.wrap ((k2 : Int) + 1) = (k3 : Int) := by rw [hk3, IntWalk.i64_in _ (by omega)]; omega
      obtain ⟨k4, hk4⟩ : ∃ z, z = k3 + 1 := ⟨_, rfl⟩
      have x4 : IntKind.i64.wrap ((k3 : Int) + 1) = (k4 : Int) := by rw [hk4, IntWalk.i64_in _ (by omega)]; omega
      obtain ⟨k5, hk5⟩ : ∃ z, z = k4 + 1 := ⟨_, rfl⟩
      have x5 : IntKind.i64.wrap ((k4 : Int) + 1) = (k5 : Int) := by rw [hk5, IntWalk.i64_in _ (by omega)]; omega
      obtain ⟨k6, hk6⟩ : ∃ z, z = k5 + 1 := ⟨_, rfl⟩
      have x6 : IntKind.i64.wrap ((k5 : Int) + 1) = (k6 : Int) := by rw [hk6, IntWalk.i64_in _ (by omega)]; omega
      obtain ⟨k7, hk7⟩ : ∃ z, z = k6 + 1 := ⟨_, rfl⟩
      have x7 : IntKind.i64.wrap ((k6 : Int) + 1) = (k7 : Int) := by rw [hk7, IntWalk.i64_in _ (by omega)]; omega
      obtain ⟨k8, hk8⟩ : ∃ z, z = k7 + 1 := ⟨_, rfl⟩
      have x8 : IntKind.i64.wrap ((k7 : Int) + 1) = (k8 : Int) := by rw [hk8, IntWalk.i64_in _ (by omega)]; omega
      obtain ⟨k9, hk9⟩ : ∃ z, z = k8 + 1 := ⟨_, rfl⟩
      have x9 : IntKind.i64.wrap ((k8 : Int) + 1) = (k9 : Int) := by rw [hk9, IntWalk.i64_in _ (by omega)]; omega
      obtain ⟨k10, hk10⟩ : ∃ z, z = k9 + 1 := ⟨_, rfl⟩
      have x10 : IntKind.i64.wrap ((k9 : Int) + 1) = (k10 : Int) := by rw [hk10, IntWalk.i64_in _ (by omega)]; omega
      obtain ⟨k11, hk11⟩ : ∃ z, z = k10 + 1 := ⟨_, rfl⟩
      have x11 : IntKind.i64.wrap ((k10 : Int) + 1) = (k11 : Int) := by rw [hk11, IntWalk.i64_in _ (by omega)]; omega
      obtain ⟨k12, hk12⟩ : ∃ z, z = k11 + 1 := ⟨_, rfl⟩
      have x12 : IntKind.i64.wrap ((k11 : Int) + 1) = (k12 : Int) := by rw [hk12, IntWalk.i64_in _ (by omega)]; omega
      obtain ⟨k13, hk13⟩ : ∃ z, z = k12 + 1 := ⟨_, rfl⟩
      have x13 : IntKind.i64.wrap ((k12 : Int) + 1) = (k13 : Int) := by rw [hk13, IntWalk.i64_in _ (by omega)]; omega
      have HK := Lib.hid (show k13 + os[j].ids.length = k + 13 * (j + 1) + sumI (os.take (j + 1)) by rw [hst]; omega)
      have cm11 := fun W => mark_text k11 W (by omega) (by omega)
      have cm12 := fun W => mark_text k12 W (by omega) (by omega)
      have hb13 : k13 ≤ 1099511627776 := by omega
      clear hk1 hk2 hk3 hk4 hk5 hk6 hk7 hk8 hk9 hk10 hk11 hk12 hk13 hsl hst hsl2 hkb hk0
      obtain ⟨y, hy, hf⟩ := K.out.at j 0 hlt (by omega)
      rw [Nat.add_zero] at hy hf
      go_upto_region 5 with (fail)
      refine Wk.pass (Q := fun V => Code.wp _ _ _ _ V) K.out L j 0 hlt (by omega) ?_
      clear hy hf K y
      intro V K
      replace K := Lib.hid K
      obtain ⟨y, hy, hf⟩ := K.out.at j 1 hlt (by omega)
      go_upto_region 7 with (fail)
      refine Wk.pass (Q := fun V => Code.wp _ _ _ _ V) K.out L j 1 hlt (by omega) ?_
      clear hy hf K y
      intro V K
      replace K := Lib.hid K
      obtain ⟨y, hy, hf⟩ := K.out.at j 2 hlt (by omega)
      go_upto_region 9 with (fail)
      refine Wk.pass (Q := fun V => Code.wp _ _ _ _ V) K.out L j 2 hlt (by omega) ?_
      clear hy hf K y
      intro V K
      replace K := Lib.hid K
      obtain ⟨y, hy, hf⟩ := K.out.at j 3 hlt (by omega)
      go_upto_region 11 with (fail)
      refine Wk.pass (Q := fun V => Code.wp _ _ _ _ V) K.out L j 3 hlt (by omega) ?_
      clear hy hf K y
      intro V K
      replace K := Lib.hid K
      obtain ⟨y, hy, hf⟩ := K.out.at j 4 hlt (by omega)
      go_upto_region 13 with (fail)
      refine Wk.pass (Q := fun V => Code.wp _ _ _ _ V) K.out L j 4 hlt (by omega) ?_
      clear hy hf K y
      intro V K
      replace K := Lib.hid K
      obtain ⟨y, hy, hf⟩ := K.out.at j 5 hlt (by omega)
      go_upto_region 15 with (fail)
      refine Wk.pass (Q := fun V => Code.wp _ _ _ _ V) K.out L j 5 hlt (by omega) ?_
      clear hy hf K y
      intro V K
      replace K := Lib.hid K
      obtain ⟨y, hy, hf⟩ := K.out.at j 6 hlt (by omega)
      go_upto_region 17 with (fail)
      refine Wk.pass (Q := fun V => Code.wp _ _ _ _ V) K.out L j 6 hlt (by omega) ?_
      clear hy hf K y
      intro V K
      replace K := Lib.hid K
      obtain ⟨y, hy, hf⟩ := K.out.at j 7 hlt (by omega)
      go_upto_region 19 with (fail)
      refine Wk.pass (Q := fun V => Code.wp _ _ _ _ V) K.out L j 7 hlt (by omega) ?_
      clear hy hf K y
      intro V K
      replace K := Lib.hid K
      obtain ⟨y, hy, hf⟩ := K.out.at j 8 hlt (by omega)
      go_upto_region 21 with (fail)
      refine Wk.pass (Q := fun V => Code.wp _ _ _ _ V) K.out L j 8 hlt (by omega) ?_
      clear hy hf K y
      intro V K
      replace K := Lib.hid K
      obtain ⟨y, hy, hf⟩ := K.out.at j 9 hlt (by omega)
      go_upto_region 23 with (fail)
      refine Wk.pass (Q := fun V => Code.wp _ _ _ _ V) K.out L j 9 hlt (by omega) ?_
      clear hy hf K y
      intro V K
      replace K := Lib.hid K
      obtain ⟨y, hy, hf⟩ := K.out.at j 10 hlt (by omega)
      go_upto_region 25 with (fail)
      refine Wk.pass (Q := fun V => Code.wp _ _ _ _ V) K.out L j 10 hlt (by omega) ?_
      clear hy hf K y
      intro V K
      replace K := Lib.hid K
      go_wp2_with (fail)
      with_reducible refine (cm11 _).mono ?_
      rintro e w11 ⟨rfl, hb11⟩
      replace K := Lib.hid (K.out.kept L hb11)
      clear hb11 cm11
      obtain ⟨y, hy, hf⟩ := K.out.at j 11 hlt (by omega)
      go_upto_region 27 with (fail)
      refine Wk.pass (Q := fun V => Code.wp _ _ _ _ V) K.out L j 11 hlt (by omega) ?_
      clear hy hf K y
      intro V K
      replace K := Lib.hid K
      go_wp2_with (fail)
      with_reducible refine (cm12 _).mono ?_
      rintro e w12 ⟨rfl, hb12⟩
      replace K := Lib.hid (K.out.kept L hb12)
      clear hb12 cm12
      obtain ⟨y, hy, hf⟩ := K.out.at j 12 hlt (by omega)
      go_upto_region 29 with (fail)
      refine Wk.pass (Q := fun V => Code.wp _ _ _ _ V) K.out L j 12 hlt (by omega) ?_
      clear hy hf K y
      intro V K
      replace K := Lib.hid K
      obtain ⟨zs, hz, hr⟩ := K.out.ids j hlt
      have hsl := K.out.sl j hlt
      have hgl : (os.getD j Ov.zero).ids.length = os[j].ids.length := by simp [List.getD_eq_getElem?_getD, hlt]
      have hzl : zs.length ≤ 1048576 := by
        have h2 := sumI_take os j hlt
        have h3 := sumI_le os (j + 1)
        omega
      have ci := fun W h => mark_ints_only (us j) zs W B C k13 h hzl hb13
      obtain ⟨ka, hka⟩ : ∃ ka, ka = k13 + zs.length := ⟨_, rfl⟩
      rw [← hka] at ci
      have HK2 := Lib.hid (show ka = k + 13 * (j + 1) + sumI (os.take (j + 1)) by have := HK.out; omega)
      have HZ := Lib.hid (show (marks k13 zs.length).length = (os.getD j Ov.zero).ids.length by rw [marks_length]; exact hz)
      have HR := Lib.hid hr
      obtain ⟨ua, uc, hu⟩ := irow_form0 hr
      have HU := Lib.hid hu
      rw [hu] at hsl ci
      clear hka hgl hz hzl hb13 hr HK hu
      go_wp2_with (fail)
      with_reducible refine (ci _ (by have := HR.out; rw [HU.out] at this; exact this)).mono ?_
      rintro e wZ ⟨rfl, hI, hB, ho⟩
      have KZ := Lib.hid (K.out.ints L j hlt HZ.out (by rw [HU.out]; exact hI) hB (by rw [HU.out]; exact ho))
      clear hI hB ho ci hsl HR HU HZ K
      go_wp2_with (fail)
      go_roundw
      case rel => exact ⟨j + 1, ka, by omega, HK2.out, rfl, by go_num, KZ.out⟩
      case measure => simp [intOf]; omega
    · obtain rfl : j = os.length := by omega
      have q1 : ¬ (os.length : Int) < (os.length : Int) := by omega
      clear hk0
      go_wp2_with (fail)
      go_ret
      exact ⟨⟨k0, rfl⟩, K.out.bel, fun i hi hne => K.out.out i hi (fun hc => by have := hne hc.1; omega)⟩
end Go.Proofs.Ytkpajakangaekab

