import Derived.Test.YtnjcmknjfonjpaaDoorRows
import Derived.WalkKit
import Derived.WalkSpells
import Derived.IntWalk
import Derived.Laws.BytesArg
import Derived.Deep.RegionHeld3
import Derived.Deep.AppendLies
namespace Go.Proofs.YtnjcmknjfonjpaaDoor
open Go.RowKit

theorem ret_int {k : IntKind} {a b : Int} (h : a = b) : Ending.returned (.int k a) = .returned (.int k b) := by rw [h]

def fig (x : Int) : Int := if x < 10 then 48 + x else 97 + x - 10

theorem figure_call (x : Int) (w : World) (h0 : 0 ≤ x) (h1 : x ≤ 15) :
    Calls Tryd.prog 42 #[.int .i64 x] w fun e w' => e = .returned (.int .u8 (fig x)) ∧ w' = w := by
  by_cases h : x < 10
  all_goals
    go_enter Tryd.func42, Tryd.ntmps42
    go_wp2
    go_ret
    exact ⟨ret_int (by unfold fig; split <;> omega), rfl⟩

theorem infoHex5 : (Tryd.prog.info? 5).map (fun i => (i.zero, i.size, i.bytes)) = some (some (.int .u8 0), 1, 1) := by kernel_rfl

/-- The hexadecimal figures of a list of bytes. -/
def hexOf (l : List UInt8) : List Int := l.flatMap fun c => [fig ((c.toNat : Int) / 16), fig ((c.toNat : Int) % 16)]

theorem hexOf_take (l : List UInt8) (k : Nat) (h : k < l.length) : hexOf (l.take (k + 1)) = hexOf (l.take k) ++ [fig ((l[k].toNat : Int) / 16), fig ((l[k].toNat : Int) % 16)] := by
  unfold hexOf
  rw [List.take_succ_eq_append_getElem h, List.flatMap_append]
  simp
theorem hexOf_length (l : List UInt8) : (hexOf l).length = 2 * l.length := by
  unfold hexOf
  induction l with
  | nil => rfl
  | cons c l ih => simp only [List.flatMap_cons, List.length_append, ih, List.length_cons, List.length_nil]; omega

/-- A row of bytes of the call's own, made a string. -/
theorem conv_own {P : Program} {w : World} {base g n cap : Nat} {xs : List Int} {e : TypeId} (src : TypeId) (hs : P.underlying src = some (.slice e)) (he : P.underlying e = some (.int .u8))
    (h : w.ownsRow base e 1 (.slice (some ⟨g, 0, none⟩) n cap) n (xs.map (Value.int .u8))) (dst : TypeId) (hd : P.underlying dst = some .string) :
    (convert src dst (.slice (some ⟨g, 0, none⟩) n cap)).run P w = .ok (.string (strOfNums xs)) w := by
  have hl : xs.length = n := by have := h.1; simpa using this
  refine run_convert_bytes_arg w src e hs he g 0 n cap xs hl (fun i hi => ?_) dst hd
  have hc := h.cells (g := g) rfl i (.int .u8 (xs.getD i 0)) (by rw [List.getElem?_map, List.getElem?_eq_getElem (by omega)]; simp [List.getD, List.getElem?_eq_getElem (show i < xs.length by omega)])
  have hadd : (⟨g, 0, none⟩ : Addr).add i = ⟨g, i, none⟩ := by unfold Addr.add; split <;> simp_all
  rw [hadd] at hc
  simpa using hc

theorem below_new {w : World} {o : Obj} : Below w.heap.size w (w.alloc o) := (Below.refl _ _).alloc (Nat.le_refl _) _

/-- What Hex answers. -/
def hexText (s : ByteArray) : ByteArray := strOfNums (hexOf s.data.toList)

set_option maxRecDepth 100000 in
set_option maxHeartbeats 800000 in
theorem model_hex (s : ByteArray) (w : World) (hs : s.size ≤ 20000) :
    Calls Tryd.prog 33 #[.string s] w fun e w' => e = .returned (.tuple #[.string (hexText s), .bool true]) ∧ Below w.heap.size w w' := by
  obtain ⟨i0, hi, hz0, hz1, hz2⟩ := info_parts infoHex5
  go_enter Tryd.func33, Tryd.ntmps33
  go_wp2
  go_loopw [4, 5] (fun v i wr => ∃ k g cap : Nat, k ≤ s.size ∧ i = .int .i64 k ∧ v = .slice (some ⟨g, 0, none⟩) (2 * k) cap ∧ wr.ownsRow w.heap.size 5 1 (.slice (some ⟨g, 0, none⟩) (2 * k) cap) (2 * k) ((hexOf (s.data.toList.take k)).map (Value.int .u8)) ∧ Below w.heap.size w wr) (fun _ i _ => s.size - (intOf i).toNat)
  case atStart => exact ⟨0, w.heap.size, 0, by omega, rfl, rfl, World.ownsRow_made w #[] 0 (Nat.le_refl _) (by unfold maxLen; omega) rfl, below_new⟩
  case round =>
    obtain ⟨k, g, cap, hk, rfl, rfl, hown, hnx⟩ := hrel
    by_cases hlt : k < s.size
    · have hc1 : (s[k].toNat : Int) < 256 := by have := s[k].toNat_lt; omega
      have hwf := hnx.size
      go_wp2
      have e1 : IntKind.i64.wrap (s[k].toNat : Int) = (s[k].toNat : Int) := IntWalk.i64_in _ (by omega)
      have e2 : (s[k].toNat : Int).tdiv 16 = (s[k].toNat : Int) / 16 := Int.tdiv_eq_ediv_of_nonneg (by omega)
      have e3 : IntKind.i64.wrap ((s[k].toNat : Int) / 16) = (s[k].toNat : Int) / 16 := IntWalk.i64_in _ (by omega)
      have e4 : (s[k].toNat : Int).tmod 16 = (s[k].toNat : Int) % 16 := Int.tmod_eq_emod_of_nonneg (by omega)
      have g1 : 0 ≤ (s[k].toNat : Int) / 16 := by omega
      have g2 : (s[k].toNat : Int) / 16 ≤ 15 := by omega
      have g3 : 0 ≤ (s[k].toNat : Int) % 16 := by omega
      have g4 : (s[k].toNat : Int) % 16 ≤ 15 := by omega
      have hroom1 : 2 * k + 2 ≤ maxLen := by unfold maxLen; omega
      have hroom2 : (2 * k + 2) * 1 ≤ 140737488355328 := by omega
      go_region_held3 (fun _ => True) (first | trivial)
        (first
          | (go_at_call 42; refine (figure_call _ _ (by assumption) (by assumption)).mono ?_; rintro e w' ⟨rfl, rfl⟩)
          | (refine step_append_lies _ (by rfl) _ _ _ (by rfl) w.heap.size 5 i0 _ 1 1 Tryd.underlying45 hi hz0 hz1 hz2 rfl (by omega) _ _ _ (by rfl) ((hown.alloc _).drew)
              ⟨wr.heap.size, 0, none⟩ 2 2 [.int .u8 (fig ((s[k].toNat : Int) / 16)), .int .u8 (fig ((s[k].toNat : Int) % 16))] (by rfl) (by rfl) (World.news_of_block (cs := #[.int .u8 (fig ((s[k].toNat : Int) / 16)), .int .u8 (fig ((s[k].toNat : Int) % 16))]) (t := 5) (fr := (0, 0)) (heap_alloc_new wr _)) (by simp [Value.oneCell'])
              (by omega) hroom1 hroom2 (by simp; omega) (wr.heap.size + 1) (by simp) ?_; intro gg cap w1 hown1 hgrow hat hlt2))
      all_goals
        have hb1 : Below w.heap.size w w1 := ((hnx.alloc hwf _).drew).grown hgrow (by simp; omega) (fun j hj => (hown.lt j hj).1)
        have hnext : w1.ownsRow w.heap.size 5 1 (Value.slice (some ⟨gg, 0, none⟩) (2 * (k + 1)) cap) (2 * (k + 1)) ((hexOf (s.data.toList.take (k + 1))).map (Value.int .u8)) := by
          rw [hexOf_take s.data.toList k (by simpa using hlt), List.map_append, show 2 * (k + 1) = 2 * k + 2 by omega]
          exact hown1
        clear hown1 hgrow hown hnx hat hlt2 e1 e2 e3 e4
        go_wp2
        go_roundw
        case rel => exact ⟨k + 1, gg, cap, by omega, by go_num, by rw [show 2 * (k + 1) = 2 * k + 2 by omega], hnext, hb1⟩
        case measure => simp [intOf]; omega
    · obtain rfl : k = s.size := by omega
      have hcv := conv_own (P := Tryd.prog) 45 Tryd.underlying45 Tryd.underlying5 hown 9 Tryd.underlying9
      rw [List.take_of_length_le (by simp)] at hcv
      go_wp2
      go_ret2
      exact ⟨rfl, hnx⟩

end Go.Proofs.YtnjcmknjfonjpaaDoor
