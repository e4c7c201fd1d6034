import Derived.Test.YtlkhgamhhblmgaaDoorMarkD
import Derived.Test.YtlkhgamhhblmgaaDoorMtabG
import Derived.Test.YtlkhgamhhblmgaaDoorLaws3
import Derived.Test.YtlkhgamhhblmgaaDoorCutI
import Derived.Test.YtlkhgamhhblmgaaDoorBig
import Derived.Deep.RegionHeld3
namespace Go.Proofs.YtlkhgamhhblmgaaDoor
open Go.RowKit

theorem len_bound (L : Nat) (h : (L : Int) ∈ keyLens) : L ≤ 100 := by
  have hb : ∀ z ∈ keyLens, z ≤ 100 := by decide
  have := hb _ h
  omega

theorem txt_size (p m : Nat) (hm : m < 70) : (txt p m).length ≤ 98 := by
  have := pre_short p
  simp only [txt, List.length_append, List.length_replicate]
  omega

set_option maxHeartbeats 1000000 in
/-- A drawn key, a drawn text and a mark, right or spoilt. -/
theorem hmacok_draw (v : Value) (n : Nat) (w : World) (hv : RdB w v n) (hn : n ≤ 1048576) :
    Calls Tryd.prog 21 #[v] w fun e w' => ∃ L i p m : Nat, ∃ r : ByteArray, (L : Int) ∈ keyLens ∧ i < 256 ∧ p < 4 ∧ m < 70 ∧ e = .returned (.tuple #[.string (keyB L (bv i)), .string ⟨(txt p m).toArray⟩, .string r]) ∧ Below w.heap.size w w' := by
  have cn := new_dr v n w hv hn
  go_enter Tryd.func21, Tryd.ntmps21
  go_wp2_with (fail)
  with_reducible refine cn.mono ?_
  rintro e w1 ⟨rfl, d1, b1⟩
  have cb := below_dr w.heap.size v n 3 w1 d1 (by omega) (by omega)
  rw [show ((3 : Nat) : Int) = 3 from rfl] at cb
  go_wp2_with (fail)
  with_reducible refine cb.mono ?_
  rintro e w2 ⟨r0, hr0, rfl, d2, o2⟩
  have hb2 := o2.below b1 (Nat.le_refl _)
  have ch := hmac_draw v n w2 d2.rd hn
  go_wp2_with (fail)
  with_reducible refine ch.mono ?_
  rintro e w3 ⟨L, i, p, m, hL, hi, hp, hm, rfl, b3⟩
  have d3 := d2.kept b3
  have hb3 := hb2.trans (b3.mono hb2.size)
  have hLb := len_bound L hL
  have htl := txt_size p m hm
  have hks : (keyB L (bv i)).size ≤ 1048576 := by rw [keyB_size]; omega
  have hts : (⟨(txt p m).toArray⟩ : ByteArray).size ≤ 1100000 := by show (txt p m).toArray.size ≤ _; rw [List.size_toArray]; omega
  obtain ⟨key, hkey⟩ : ∃ key, keyB L (bv i) = key := ⟨_, rfl⟩
  obtain ⟨tx, htx⟩ : ∃ tx : ByteArray, ⟨(txt p m).toArray⟩ = tx := ⟨_, rfl⟩
  rw [hkey] at hks
  rw [htx] at hts
  rw [hkey, htx]
  have HK := Lib.hid hkey
  have HX := Lib.hid htx
  clear hkey htx
  have ct := spec_hmac key tx w3 hks hts
  have hsz := hmacOf_size key tx
  generalize hmacOf key tx = tag at ct hsz
  go_wp2_with (fail)
  with_reducible refine ct.mono ?_
  rintro e w4 ⟨rfl, b4⟩
  have d4 := d3.kept b4
  have hb4 := hb3.trans (b4.mono hb3.size)
  by_cases h0 : r0 = 0
  · subst h0
    have cs := spoilt_draw w.heap.size v n tag hsz w4 d4
    go_wp2_with (fail)
    with_reducible refine cs.mono ?_
    rintro e w5 ⟨r, rfl, g5⟩
    go_wp2_with (fail)
    go_ret3
    exact ⟨L, i, p, m, r, hL, hi, hp, hm, by rw [HK.out, HX.out]; rfl, Grew.chain hb4 g5 (Nat.le_refl _) hb4.size⟩
  · have q : ((r0 : Int) == 0) = false := by simp; omega
    go_wp2_with (fail)
    go_ret3
    exact ⟨L, i, p, m, tag, hL, hi, hp, hm, by rw [HK.out, HX.out]; rfl, hb4⟩

theorem cat_size (t : ByteArray) (h : t.size ≤ 98) : t.size + (⟨#[97]⟩ : ByteArray).size ≤ 9223372036854775807 := by
  show t.size + 1 ≤ _
  omega

theorem keep_three {a W W' : World} (h : Keys W ∧ Starts W ∧ Below a.heap.size a W) (hb : Below W.heap.size W W') : Keys W' ∧ Starts W' ∧ Below a.heap.size a W' :=
  ⟨h.1.below hb, h.2.1.below hb, Below.then_ h.2.2 hb⟩

set_option maxHeartbeats 2000000 in
set_option maxRecDepth 100000 in
theorem marks_law (v : Value) (w : World) (hk : Keys w) (hst : Starts w) (n : Nat) (hr : RdB w v n) (HT : ∀ L : Nat, (L : Int) ∈ keyLens → ApartAt L) :
    Calls Tryd.prog 5 #[v] w fun e w' => e = .returned (.bool true) ∧ Below w.heap.size w w' := by
  have cb := big_call v n w hr
  by_cases hn : 1048576 < n
  · rw [decide_eq_true hn] at cb
    clear hn hr
    go_enter Tryd.func5, Tryd.ntmps5
    go_wp2_with (go_at_call 9; refine cb.mono ?_; rintro e w1 ⟨rfl, rfl⟩)
    go_ret
    exact ⟨rfl, Below.refl _ _⟩
  · rw [decide_eq_false hn] at cb
    have cd := hmacok_draw v n w hr (by omega)
    clear hn hr
    go_enter Tryd.func5, Tryd.ntmps5
    go_wp2_with (go_at_call 9; refine cb.mono ?_; rintro e w1 ⟨rfl, rfl⟩)
    with_reducible refine cd.mono ?_
    rintro e w1 ⟨L, i, p, m, r, hL, hi, hp, hm, rfl, hb1⟩
    clear cb cd
    have k1 := hk.below hb1
    have s1 := hst.below hb1
    have hap := HT L hL p m hp hm i hi
    have hLb := len_bound L hL
    have htl := txt_size p m hm
    have hks : (keyB L (bv i)).size ≤ 1048576 := by rw [keyB_size]; omega
    have hts : (⟨(txt p m).toArray⟩ : ByteArray).size ≤ 98 := by show (txt p m).toArray.size ≤ _; rw [List.size_toArray]; exact htl
    have hcat : (⟨(txt p m ++ [97]).toArray⟩ : ByteArray) = (⟨(txt p m).toArray⟩ : ByteArray) ++ (⟨#[97]⟩ : ByteArray) := by
      apply ByteArray.ext
      apply Array.toList_inj.1
      simp [ByteArray.data_append]
    rw [hcat] at hap
    clear hcat htl hLb hL HT
    generalize keyB L (bv i) = key at hks hap ⊢
    generalize (⟨(txt p m).toArray⟩ : ByteArray) = t at hts hap ⊢
    clear hi hp hm
    have hcs := cat_size t hts
    have c1 := fun W a b => impl_hmac key t W hks (by omega) a b
    have c2 := fun W a b => impl_cutmark key t 8 W hks (by omega) a b
    have hms := hmacOf_size key t
    have hcut : cutMarkOf key t 8 = (hmacOf key t).extract 0 8 := by unfold cutMarkOf; rfl
    rw [hcut] at c2
    have hcz : ((hmacOf key t).extract 0 8).size = 8 := by rw [ByteArray.size_extract]; omega
    have hsl : ∀ W, (Instr.slice 9 (.string (hmacOf key t)) none (some (.int .i64 8)) none).run Tryd.prog W = .ok (.string ((hmacOf key t).extract 0 8)) W := fun W => slice_upto (hmacOf key t) 8 (by omega) W
    have c3 := fun W a b => impl_ok key t (hmacOf key t) W hks (by omega) (by omega) a b
    rw [decide_eq_true rfl] at c3
    have c4 := fun W a b => impl_ok key (t ++ (⟨#[97]⟩ : ByteArray)) (hmacOf key t) W hks (by rw [ByteArray.size_append]; show t.size + 1 ≤ _; omega) (by omega) a b
    rw [decide_eq_false (fun e => hap e.symm)] at c4
    have c5 := fun W => spec_hmac key t W hks (by omega)
    have c6 := fun W => impl_same (hmacOf key t) (hmacOf key t) W (by omega) (by omega)
    rw [decide_eq_true rfl] at c6
    have c7 := fun W => impl_same (hmacOf key t) ((hmacOf key t).extract 0 8) W (by omega) (by omega)
    rw [decide_eq_false (fun e => by have := congrArg ByteArray.size e; omega)] at c7
    have c8 := fun W a b => impl_key key W hks a b
    have hkz := keyOf_size key
    clear hap hcut
    generalize (hmacOf key t).extract 0 8 = cut at c2 hcz hsl c7
    generalize hmacOf key t = tag at c1 c3 c4 c5 c6 c7 hms hsl
    generalize keyOf key = kk at c8 hkz
    generalize hx : t ++ (⟨#[97]⟩ : ByteArray) = ta at c4
    have q1 : (tag.size : Int) = 32 := by omega
    have q2 : (cut.size : Int) = 8 := by omega
    have q3 : (kk.size : Int) = 64 := by omega
    have q4 : (cut.toList == cut.toList) = true := by simp
    clear hms hcz hkz
    go_wp2_with (fail)
    with_reducible refine (c1 w1 k1 s1).mono ?_
    rintro e w2 ⟨rfl, b2⟩
    have hb2 := Below.then_ hb1 b2
    have k2 := k1.below b2
    have s2 := s1.below b2
    go_wp2_with (fail)
    with_reducible refine (c2 w2 k2 s2).mono ?_
    rintro e w3 ⟨rfl, b3⟩
    have hb3 := Below.then_ hb2 b3
    have k3 := k2.below b3
    have s3 := s2.below b3
    clear c1 c2 hb1 hb2 k1 s1 k2 s2 b2 b3
    go_wp2_with (fail)
    with_reducible refine (c3 w3 k3 s3).mono ?_
    rintro e w4 ⟨rfl, b4⟩
    have hb4 := Below.then_ hb3 b4
    have k4 := k3.below b4
    have s4 := s3.below b4
    clear c3 hb3 k3 s3 b4
    go_wp2_with (fail)
    with_reducible refine (c4 w4 k4 s4).mono ?_
    rintro e w5 ⟨rfl, b5⟩
    have hb5 := Below.then_ hb4 b5
    have k5 := k4.below b5
    have s5 := s4.below b5
    clear c4 hb4 k4 s4 b5
    go_wp2_with (fail)
    with_reducible refine (c5 w5).mono ?_
    rintro e w6 ⟨rfl, b6⟩
    have hb6 := Below.then_ hb5 b6
    have k6 := k5.below b6
    have s6 := s5.below b6
    clear c5 hb5 k5 s5 b6
    go_wp2_with (fail)
    with_reducible refine (c6 w6).mono ?_
    rintro e w7 ⟨rfl, b7⟩
    have hb7 := Below.then_ hb6 b7
    have k7 := k6.below b7
    have s7 := s6.below b7
    clear c6 hb6 k6 s6 b7
    go_wp2_with (fail)
    with_reducible refine (c7 w7).mono ?_
    rintro e w8 ⟨rfl, b8⟩
    have hb8 := Below.then_ hb7 b8
    have k8 := k7.below b8
    have s8 := s7.below b8
    clear c7 hb7 k7 s7 b8
    go_wp2_with (fail)
    with_reducible refine (c8 w8 k8 s8).mono ?_
    rintro e w9 ⟨rfl, b9⟩
    have hb9 := Below.then_ hb8 b9
    clear c8 hb8 k8 s8 b9
    go_wp2_with (fail)
    go_ret
    exact ⟨rfl, hb9⟩

end Go.Proofs.YtlkhgamhhblmgaaDoor
