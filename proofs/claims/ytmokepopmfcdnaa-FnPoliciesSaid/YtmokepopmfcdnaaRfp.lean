import Derived.Test.YtmokepopmfcdnaaRif
import Derived.Test.YtmokepopmfcdnaaRok
namespace Go.Proofs.Ytmokepopmfcdnaa
open Go.RowKit

def hasR (x : Int) (os : List Av) : Bool := os.any fun a => a.addr == x
theorem hasR_succ (x : Int) (os : List Av) (k : Nat) (h : k < os.length) : hasR x (os.take (k + 1)) = (hasR x (os.take k) || os[k].addr == x) := by
  unfold hasR
  rw [List.take_succ_eq_append_getElem h, List.any_append]
  simp
theorem want_own {kd mn : Int} {os fs : List Av} (r : Rv) (h : r ∈ wantR kd mn os fs) : hasR r.own os = true := by
  unfold wantR at h
  unfold hasR
  rw [List.any_eq_true]
  split at h
  · next hc =>
    have hf := of_decide_eq_true (Bool.and_eq_true_iff.1 hc).2
    split at h
    · obtain ⟨a, ha, hr⟩ := List.mem_flatMap.1 (List.mem_of_mem_take h)
      obtain ⟨b, -, rfl⟩ := List.mem_map.1 hr
      exact ⟨a, ha, by simp⟩
    · obtain ⟨i, -, rfl⟩ := List.mem_map.1 h
      cases os with
      | nil => simp at hf
      | cons a rest => exact ⟨a, List.mem_cons_self, by simp⟩
  · cases h
theorem want_some {kd mn : Int} {os fs : List Av} (hp : polOk kd mn = true) (hf : fitR os fs = true) : 0 < (wantR kd mn os fs).length := by
  unfold wantR
  rw [hp, hf, if_pos (by decide)]
  have hf := of_decide_eq_true hf
  split
  · have h1 : 1 * 1 ≤ os.length * fs.length := Nat.mul_le_mul hf.1.1 hf.2.1
    rw [List.length_take, mesh_len]
    omega
  · rw [ports_len]
    unfold polOk at hp
    have hp := of_decide_eq_true hp
    unfold manyR
    split <;> omega
theorem missGo_all {hs ws : List Rv} (h : ∀ r ∈ ws, r ∈ hs) : missGo hs ws = [] := by
  induction ws with
  | nil => rfl
  | cons x r ih =>
    unfold missGo
    rw [if_pos (h x List.mem_cons_self), ih (fun y hy => h y (List.mem_cons_of_mem _ hy))]
theorem missGo_none (ws : List Rv) : missGo [] ws = ws := by
  induction ws with
  | nil => rfl
  | cons x r ih =>
    unfold missGo
    rw [if_neg (by simp), ih]
theorem miss_self {ws : List Rv} (h : ws.length ≤ 8) : missR ws ws = [] := by
  unfold missR shortR
  rw [decide_eq_true (by omega), if_pos rfl]
  exact missGo_all fun _ h => h
theorem miss_nil {ws : List Rv} (h : ws.length ≤ 8) : missR ws [] = ws := by
  unfold missR shortR
  rw [decide_eq_true (by simp; omega), if_pos rfl]
  exact missGo_none ws

set_option maxRecDepth 100000 in
set_option maxHeartbeats 2000000 in
theorem same_roads (v u : Value) (ms : List Rv) (w : World) (hv : RdR w v ms) (hu : RdR w u ms) (hn : ms.length ≤ 1048577) :
    Calls Try.prog 14 #[v, u] w fun e w' => e = .returned (.bool true) ∧ Below w.heap.size w w' := by
  have hv0 := hv
  have hu0 := hu
  obtain ⟨a, c, rfl⟩ := hv.form
  obtain ⟨a', c', rfl⟩ := hu.form
  clear hv hu
  go_enter Try.func14, Try.ntmps14
  go_wp2_with (fail)
  go_loopw [5] (fun i wr => ∃ k : Nat, k ≤ ms.length ∧ i = .int .i64 k ∧ Below w.heap.size w wr) (fun i _ => ms.length - (intOf i).toNat)
  case atStart => exact ⟨0, by omega, rfl, Below.refl _ _⟩
  case round =>
    obtain ⟨k, hk, rfl, hB⟩ := hrel
    by_cases hlt : k < ms.length
    · have q : (k : Int) < (ms.length : Int) := by omega
      have q2 : (0 : Int) ≤ (k : Int) := by omega
      obtain ⟨b, off, ha, -, k0, k1, k2, -⟩ := rv_at (P := Try.prog) (hv0.below hB) k hlt
      obtain ⟨b', off', ha', -, l0, l1, l2, -⟩ := rv_at (P := Try.prog) (hu0.below hB) k hlt
      subst ha ha'
      generalize ms[k] = m at *
      have he := fun W => neq_rv m m W false (by simp)
      have HB := Lib.hid hB
      clear hB
      go_wp2_with (fail)
      go_quiet (fail)
      go_wp2_with (fail)
      go_roundw
      case rel => exact ⟨k + 1, by omega, by go_num, Below.then_ HB.out (dN_rbelow _ _)⟩
      case measure => simp [intOf]; omega
    · have q : ¬ (k : Int) < (ms.length : Int) := by omega
      have HB := Lib.hid hB
      clear hB
      go_wp2_with (fail)
      go_ret
      exact ⟨rfl, HB.out⟩
end Go.Proofs.Ytmokepopmfcdnaa
