import Derived.Test.YtjnobggefofjcaaMin
import Derived.Test.YtjnobggefofjcaaMrv
namespace Go.Proofs.Ytjnobggefofjcaa
open Go.RowKit

set_option maxRecDepth 100000 in
set_option maxHeartbeats 2000000 in
theorem impl_placeOf (g : Nat) (v : Value) (ms : List Mp) (m : Mp) (w : World) (hg : w.cell? ⟨g, 0, none⟩ = some v) (hv : RdM w v ms) (hn : ms.length ≤ 1048576) :
    Calls Try.prog 44 #[.pointer (some ⟨g, 0, none⟩), .agg m.cells] w fun e w' => e = .returned (.int .i64 (placeGo m.sub ms : Int)) ∧ Below w.heap.size w w' := by
  have hbx := below_box w m
  have hgl := World.block_lt_of_cell? _ _ hg
  have c0 : (w.alloc (.cells #[.int .i64 m.sub, .int .i64 m.seq, .int .i64 m.len] 26)).cell? ⟨g, 0, none⟩ = some v := keepc hg hbx
  obtain ⟨a, c, rfl⟩ := hv.form
  generalize hP : placeGo m.sub ms = P
  have HP := Lib.hid hP
  have HC := Lib.hid (Cel.new w 26 #[.int .i64 m.sub, .int .i64 m.seq, .int .i64 m.len])
  have HB := Lib.hid hbx
  have HG := Lib.hid hg
  clear hP hg hbx
  unfold Mp.cells
  go_enter Try.func44, Try.ntmps44
  go_wp2_with (fail)
  clear c0
  go_loopw [11] (fun i wr => ∃ k : Nat, k ≤ ms.length ∧ i = .int .i64 k ∧ placeGo m.sub (ms.drop k) + k = P ∧ Cel wr w.heap.size 26 #[.int .i64 m.sub, .int .i64 m.seq, .int .i64 m.len] ∧ Below w.heap.size w wr) (fun i _ => ms.length - (intOf i).toNat)
  case atStart => exact ⟨0, by omega, rfl, by rw [List.drop_zero]; exact HP.out, HC.out, HB.out⟩
  case round =>
    clear HP HC HB
    obtain ⟨k, hk, rfl, hr, hC, hB⟩ := hrel
    have hR := hv.below hB
    by_cases hlt : k < ms.length
    · have q : (k : Int) < (ms.length : Int) := by omega
      have q2 : (0 : Int) ≤ (k : Int) := by omega
      obtain ⟨b, off, ha, hb, k0, k1, k2, -⟩ := hR.at (P := Try.prog) k hlt
      subst ha
      rw [List.drop_eq_getElem_cons hlt] at hr
      generalize ms[k] = o at *
      unfold placeGo at hr
      obtain ⟨b0, b1, b2⟩ := cel3 hC
      have hwl := hC.lt
      have hbo := below_box wr o
      have HN := Lib.hid (And.intro (hC.kept hbo) (Below.then_ hB hbo))
      clear hR hB hC hbo
      by_cases ho : o.sub < m.sub
      · rw [if_pos ho] at hr
        have HR := Lib.hid hr
        have ho2 : ¬ m.sub ≤ o.sub := by omega
        clear hr
        go_wp2_with (fail)
        go_roundw
        case rel => exact ⟨k + 1, by omega, by go_num, by have := HR.out; omega, HN.out.1, HN.out.2⟩
        case measure => simp [intOf]; omega
      · rw [if_neg ho] at hr
        have hr2 : k = P := by omega
        subst hr2
        have ho2 : m.sub ≤ o.sub := by omega
        clear hr
        go_wp2_with (fail)
        go_ret
        exact ⟨rfl, HN.out.2⟩
    · obtain rfl : k = ms.length := by omega
      have q : ¬ (ms.length : Int) < (ms.length : Int) := by omega
      rw [List.drop_length] at hr
      have hr2 : ms.length = P := by simpa [placeGo] using hr
      have c1 := (show wr.cell? ⟨g, 0, none⟩ = some (.slice a ms.length c) by rw [hB.cell (p := ⟨g, 0, none⟩) hgl]; exact HG.out)
      subst hr2
      have HN := Lib.hid hB
      clear hR hB hC hr
      go_wp2_with (fail)
      go_ret
      exact ⟨rfl, HN.out⟩

theorem put_keep {w W W' : World} {g h : Nat} {v x y z : Value} (a : W.cell? ⟨g, 0, none⟩ = some v ∧ W.cell? ⟨h, 0, none⟩ = some x ∧ W.cell? ⟨h, 1, none⟩ = some y ∧ W.cell? ⟨h, 2, none⟩ = some z ∧ Below w.heap.size w W) (hb : Below W.heap.size W W') :
    W'.cell? ⟨g, 0, none⟩ = some v ∧ W'.cell? ⟨h, 0, none⟩ = some x ∧ W'.cell? ⟨h, 1, none⟩ = some y ∧ W'.cell? ⟨h, 2, none⟩ = some z ∧ Below w.heap.size w W' :=
  ⟨keepc a.1 hb, keepc a.2.1 hb, keepc a.2.2.1 hb, keepc a.2.2.2.1 hb, Below.then_ a.2.2.2.2 hb⟩

theorem put_far {w W W' : World} {g h : Nat} {row : Option Nat} {v x y z : Value} (a : W.cell? ⟨g, 0, none⟩ = some v ∧ W.cell? ⟨h, 0, none⟩ = some x ∧ W.cell? ⟨h, 1, none⟩ = some y ∧ W.cell? ⟨h, 2, none⟩ = some z ∧ Below w.heap.size w W) (hg : W.grownBy W' row) (hgh : g < h) (hr : ∀ k, row = some k → h < k) (hB : Below w.heap.size w W') :
    W'.cell? ⟨g, 0, none⟩ = some v ∧ W'.cell? ⟨h, 0, none⟩ = some x ∧ W'.cell? ⟨h, 1, none⟩ = some y ∧ W'.cell? ⟨h, 2, none⟩ = some z ∧ Below w.heap.size w W' := by
  have k : ∀ (b o : Nat) (u : Value), b ≤ h → W.cell? ⟨b, o, none⟩ = some u → W'.cell? ⟨b, o, none⟩ = some u := fun b o u hbh hu => by
    rw [hg.cell_far ⟨b, o, none⟩ (World.block_lt_of_cell? _ _ hu) (fun e => by have := hr _ e.symm; simp at this; omega)]
    exact hu
  exact ⟨k _ _ _ (by omega) a.1, k _ _ _ (Nat.le_refl _) a.2.1, k _ _ _ (Nat.le_refl _) a.2.2.1, k _ _ _ (Nat.le_refl _) a.2.2.2.1, hB⟩

set_option linter.unusedSimpArgs false in
set_option maxRecDepth 100000 in
set_option maxHeartbeats 8000000 in
theorem impl_put (g : Nat) (v : Value) (ms : List Mp) (m : Mp) (B : Nat) (w : World) (hg : Cel w g 50 #[v]) (hBg : B ≤ g) (hv : OwnM w B w.heap.size v ms) (hn : ms.length ≤ 1048576) :
    Calls Try.prog 32 #[.pointer (some ⟨g, 0, none⟩), .agg m.cells] w fun e w' => e = .returned (.bool (putMap ms m).2) ∧ (∃ v', Cel w' g 50 #[v'] ∧ OwnM w' B w'.heap.size v' (putMap ms m).1) ∧ Below B w w' := by
  have hbx := below_box w m
  have hgl := hg.lt
  have hB0 : B ≤ w.heap.size := Nat.le_trans hBg (Nat.le_of_lt hgl)
  have hrd := hv.rd
  have hc0 := hg.cell 0
  rw [show ∀ v : Value, (#[v] : Array Value)[0]? = some v from fun _ => rfl] at hc0
  have co := fun W (hb : Below w.heap.size w W) => impl_ownMaps v ms W (hrd.below hb) hn
  have cp := fun W (hb : Below w.heap.size w W) => impl_placeOf g v ms m W (keepc hc0 hb) (hrd.below hb) hn
  have cO := fun W u h => impl_mapsOk u (longer ms m) W h (by rw [longer_length]; omega)
  obtain ⟨b0, b1, b2⟩ := cel3 (Cel.new w 26 #[.int .i64 m.sub, .int .i64 m.seq, .int .i64 m.len])
  obtain ⟨W0, hW0⟩ : ∃ W0, W0 = (w.alloc (.cells #[.int .i64 m.sub, .int .i64 m.seq, .int .i64 m.len] 26)).drew := ⟨_, rfl⟩
  have hS : W0.cell? ⟨g, 0, none⟩ = some v ∧ W0.cell? ⟨w.heap.size, 0, none⟩ = some (.int .i64 m.sub) ∧ W0.cell? ⟨w.heap.size, 1, none⟩ = some (.int .i64 m.seq) ∧ W0.cell? ⟨w.heap.size, 2, none⟩ = some (.int .i64 m.len) ∧ Below w.heap.size w W0 := by
    rw [hW0]
    exact ⟨keepc hc0 hbx.drew, b0, b1, b2, hbx.drew⟩
  have hW0s := Lib.hid (show w.heap.size < W0.heap.size by rw [hW0]; simp)
  have HS := Lib.hid hS
  have HH := Lib.hid (And.intro hg hv)
  unfold Mp.cells at *
  obtain ⟨va, vc, rfl, -⟩ := hv.form
  clear hg hv hbx hrd hc0 b0 b1 b2
  go_enter Try.func32, Try.ntmps32
  go_wp2_with (fail)
  refine wp_region_held_drew (S := fun W => W.cell? ⟨g, 0, none⟩ = some (.slice va ms.length vc) ∧ W.cell? ⟨w.heap.size, 0, none⟩ = some (.int .i64 m.sub) ∧ W.cell? ⟨w.heap.size, 1, none⟩ = some (.int .i64 m.seq) ∧ W.cell? ⟨w.heap.size, 2, none⟩ = some (.int .i64 m.len) ∧ Below w.heap.size w W) (by kernel_rfl) (by rw [← hW0]; exact hS) (fun hHeld => ?_)
  rw [← hW0] at hHeld ⊢
  clear hS hW0
  refine take_yes (i := 0) (oi := { dst := some 6, op := Op.move (Operand.tmp 0), type := 65, pos := "l08_maps.go:78", after := #[], guard := none }) (v := .pointer (some ⟨g, 0, none⟩)) rfl (by kernel_rfl) (by kernel_rfl) (by kernel_rfl) (fun _ _ _ h => h) (by rfl) (fun w hSw => by (try dsimp only at hSw); go_simp) (by assumption) ?_
  try simp only [Act.put, List.setIfInBounds_toArray, List.set_cons_zero, List.set_cons_succ]
  refine take_yes (i := 1) (oi := { dst := some 7, op := Op.nilCheck (Operand.tmp 6), type := 0, pos := "l08_maps.go:78", after := #[{ on := 0, ground := Ground.data }], guard := none }) (v := .pointer (some ⟨g, 0, none⟩)) rfl (by kernel_rfl) (by kernel_rfl) (by kernel_rfl) (fun _ _ _ h => h) (by rfl) (fun w hSw => by (try dsimp only at hSw); go_simp) (by assumption) ?_
  try simp only [Act.put, List.setIfInBounds_toArray, List.set_cons_zero, List.set_cons_succ]
  refine take_yes (i := 2) (oi := { dst := some 8, op := Op.load 50 (Operand.tmp 7), type := 50, pos := "l08_maps.go:78", after := #[{ on := 1, ground := Ground.data }], guard := none }) (v := .slice va ms.length vc) rfl (by kernel_rfl) (by kernel_rfl) (by kernel_rfl) (fun _ _ _ h => h) (by rfl) (fun w hSw => by (try dsimp only at hSw); go_simp) (by assumption) ?_
  try simp only [Act.put, List.setIfInBounds_toArray, List.set_cons_zero, List.set_cons_succ]
  refine take_yes (i := 4) (oi := { dst := some 10, op := Op.move (Operand.tmp 0), type := 65, pos := "l08_maps.go:78", after := #[], guard := none }) (v := .pointer (some ⟨g, 0, none⟩)) rfl (by kernel_rfl) (by kernel_rfl) (by kernel_rfl) (fun _ _ _ h => h) (by rfl) (fun w hSw => by (try dsimp only at hSw); go_simp) (by assumption) ?_
  try simp only [Act.put, List.setIfInBounds_toArray, List.set_cons_zero, List.set_cons_succ]
  refine take_yes (i := 5) (oi := { dst := some 11, op := Op.load 26 (Operand.tmp 3), type := 26, pos := "l08_maps.go:78", after := #[], guard := none }) (v := .agg #[.int .i64 m.sub, .int .i64 m.seq, .int .i64 m.len]) rfl (by kernel_rfl) (by kernel_rfl) (by kernel_rfl) (fun _ _ _ h => h) (by rfl) (fun w hSw => by (try dsimp only at hSw); go_simp) (by assumption) ?_
  try simp only [Act.put, List.setIfInBounds_toArray, List.set_cons_zero, List.set_cons_succ]
  refine take_yes (i := 7) (oi := { dst := some 13, op := Op.load 26 (Operand.tmp 3), type := 26, pos := "l08_maps.go:78", after := #[], guard := none }) (v := .agg #[.int .i64 m.sub, .int .i64 m.seq, .int .i64 m.len]) rfl (by kernel_rfl) (by kernel_rfl) (by kernel_rfl) (fun _ _ _ h => h) (by rfl) (fun w hSw => by (try dsimp only at hSw); go_simp) (by assumption) ?_
  try simp only [Act.put, List.setIfInBounds_toArray, List.set_cons_zero, List.set_cons_succ]
  refine wpAnyH_ready (rs := [3, 8]) (by kernel_rfl) (by simp) ?_
  refine AllReadyH.cons (o := { dst := some 9, op := Op.call { callee := Callee.value (Operand.func 31), args := #[Operand.tmp 8], argTypes := #[24] }, type := 50, pos := "l08_maps.go:78", after := #[{ on := 2, ground := Ground.data }], guard := none }) rfl (fun K hK => ?_) ?_
  · go_simp
    with_reducible refine (co W0 hHeld.2.2.2.2).mono ?_
    rintro e w1 ⟨u, rfl, hu, hbu⟩
    obtain ⟨ua, uc, rfl, -⟩ := hu.form
    have kw1 := put_keep (by assumption) hbu
    refine hK.out _ _ kw1 (fun hHeld => ?_)
    clear hK K
    try simp only [Act.put, List.setIfInBounds_toArray, List.set_cons_zero, List.set_cons_succ]
    refine wpAnyH_ready (rs := [6, 8]) (by kernel_rfl) (by simp) ?_
    refine AllReadyH.cons (o := { dst := some 12, op := Op.call { callee := Callee.value (Operand.func 44), args := #[Operand.tmp 10, Operand.tmp 11], argTypes := #[65, 26] }, type := 3, pos := "l08_maps.go:78", after := #[{ on := 4, ground := Ground.data }, { on := 5, ground := Ground.data }, { on := 3, ground := Ground.chain }], guard := none }) rfl (fun K hK => ?_) ?_
    · go_simp
      with_reducible refine (cp w1 hHeld.2.2.2.2).mono ?_
      rintro e w2 ⟨rfl, hbw2⟩
      have kw2 := put_keep (by assumption) hbw2
      refine hK.out _ _ kw2 (fun hHeld => ?_)
      clear hK K
      try simp only [Act.put, List.setIfInBounds_toArray, List.set_cons_zero, List.set_cons_succ]
      refine wpAnyH_ready (rs := [8]) (by kernel_rfl) (by simp) ?_
      refine AllReadyH.cons (o := { dst := some 14, op := Op.buildSlice 24 1 #[(0, Operand.tmp 13)], type := 24, pos := "l08_maps.go:78", after := #[{ on := 7, ground := Ground.data }], guard := none }) rfl (fun K hK => ?_) AllReadyH.nil
      go_simp
      have hxw2 := Cel.new w2 26 #[.int .i64 m.sub, .int .i64 m.seq, .int .i64 m.len]
      have hbw2n := below_new w2 (.cells #[.int .i64 m.sub, .int .i64 m.seq, .int .i64 m.len] 26)
      have kw2n := put_keep (by assumption) hbw2n
      refine hK.out _ _ kw2n (fun hHeld => ?_)
      clear hK K
      try simp only [Act.put, List.setIfInBounds_toArray, List.set_cons_zero, List.set_cons_succ]
      refine wpAnyH_ready (rs := [9]) (by kernel_rfl) (by simp) ?_
      refine AllReadyH.cons (o := { dst := some 15, op := Op.call { callee := Callee.value (Operand.func 43), args := #[Operand.tmp 9, Operand.tmp 12, Operand.tmp 14], argTypes := #[50, 3, 24] }, type := 50, pos := "l08_maps.go:78", after := #[{ on := 3, ground := Ground.data }, { on := 6, ground := Ground.data }, { on := 8, ground := Ground.data }, { on := 6, ground := Ground.chain }], guard := none }) rfl (fun K hK => ?_) AllReadyH.nil
      have hv5 : OwnM _ w.heap.size _ (.slice ua ms.length uc) ms := ((hu.keep hbw2 (Nat.le_refl _)).keep hbw2n hbw2.size).mono HS.out.2.2.2.2.size (Nat.le_trans hbw2.size hbw2n.size)
      have hx5 := hxw2
      have hbw := hHeld.2.2.2.2
      go_simp
      with_reducible refine (impl_insert _ ms m (placeGo m.sub ms) w2.heap.size w.heap.size _ hv5 hbw.size (placeGo_le _ _) hx5 (fun e => by have h9 := hu.block _ e; have := hbw2.size; omega) hn).mono ?_
      rintro e w9 ⟨lv, rfl, hl9, hg9⟩
      have hl9 : OwnM w9 w.heap.size w9.heap.size lv (longer ms m) := hl9
      obtain ⟨la, lc, rfl, -⟩ := hl9.form
      have hB9 := hbw.grown hg9 hbw.size (fun k hk => (hv5.block k hk).1)
      have HN := Lib.hid (And.intro hl9 hB9)
      refine hK.out _ _ (put_far (by assumption) hg9 hgl (fun k hk => by have h7 := (hu.block k hk).1; have h8 := hW0s.out; omega) hB9) (fun hHeld => ?_)
      clear hK K
      try simp only [Act.put, List.setIfInBounds_toArray, List.set_cons_zero, List.set_cons_succ]
      refine take_yes (i := 10) (oi := { dst := some 5, op := Op.assign (Operand.tmp 15), type := 50, pos := "l08_maps.go:78", after := #[{ on := 9, ground := Ground.data }, { on := 9, ground := Ground.chain }, { on := 0, ground := Ground.phase }, { on := 1, ground := Ground.phase }, { on := 2, ground := Ground.phase }, { on := 3, ground := Ground.phase }, { on := 4, ground := Ground.phase }, { on := 5, ground := Ground.phase }, { on := 6, ground := Ground.phase }, { on := 7, ground := Ground.phase }, { on := 8, ground := Ground.phase }, { on := 9, ground := Ground.phase }], guard := none }) (v := .slice la (longer ms m).length lc) rfl (by kernel_rfl) (by kernel_rfl) (by kernel_rfl) (fun _ _ _ h => h) (by rfl) (fun w hSw => by (try dsimp only at hSw); go_simp) (by assumption) ?_
      try simp only [Act.put, List.setIfInBounds_toArray, List.set_cons_zero, List.set_cons_succ]
      refine wpAnyH_done (by kernel_rfl) ?_ _
      clear hv5 hx5 hbw hl9 hHeld hg9 hB9
      have hrd9 := HN.out.1.rd
      by_cases hok : mapsOk (longer ms m) = true
      · rw [hok] at cO
        have HP := Lib.hid (show putMap ms m = (longer ms m, true) by unfold putMap; rw [if_pos hok])
        clear hok
        go_wp2_with (fail)
        with_reducible refine (cO _ _ hrd9).mono ?_
        rintro e w10 ⟨rfl, hb10⟩
        obtain ⟨r1, r2, r3, r4, r5⟩ := var_set (w := w) ((HH.out.1.kept HN.out.2).kept hb10) (World.grownBy.refl _ _) (fun e => by have h7 := HH.out.2.block _ e; have h8 := own_var HH.out.2 HH.out.1 _ e; exact h8 rfl) ((HN.out.1.keep hb10 (Nat.le_refl _)).mono hB0 hb10.size) ((Below.then_ HN.out.2 hb10).mono hB0) hBg
        have HE := Lib.hid (And.intro r1 (And.intro r2 r3))
        clear r1 r2 r3 hb10 hrd9 cO co cp
        go_wp2_with (fail)
        go_ret
        rw [HP.out]
        exact ⟨rfl, ⟨_, HE.out.1, HE.out.2.1⟩, HE.out.2.2⟩
      · rw [show mapsOk (longer ms m) = false by simpa using hok] at cO
        have HP := Lib.hid (show putMap ms m = (ms, false) by unfold putMap; rw [if_neg hok])
        clear hok
        go_wp2_with (fail)
        with_reducible refine (cO _ _ hrd9).mono ?_
        rintro e w10 ⟨rfl, hb10⟩
        have hB10 := Below.then_ HN.out.2 hb10
        have HE := Lib.hid (And.intro (HH.out.1.kept hB10) (And.intro ((HH.out.2.keep hB10 (Nat.le_refl _)).mono (Nat.le_refl _) hB10.size) (hB10.mono hB0)))
        clear hB10 hb10 hrd9 cO co cp
        go_wp2_with (fail)
        go_ret
        rw [HP.out]
        exact ⟨rfl, ⟨_, HE.out.1, HE.out.2.1⟩, HE.out.2.2⟩
    · refine AllReadyH.cons (o := { dst := some 14, op := Op.buildSlice 24 1 #[(0, Operand.tmp 13)], type := 24, pos := "l08_maps.go:78", after := #[{ on := 7, ground := Ground.data }], guard := none }) rfl (fun K hK => ?_) AllReadyH.nil
      go_simp
      have hxw1 := Cel.new w1 26 #[.int .i64 m.sub, .int .i64 m.seq, .int .i64 m.len]
      have hbw1n := below_new w1 (.cells #[.int .i64 m.sub, .int .i64 m.seq, .int .i64 m.len] 26)
      have kw1n := put_keep (by assumption) hbw1n
      refine hK.out _ _ kw1n (fun hHeld => ?_)
      clear hK K
      try simp only [Act.put, List.setIfInBounds_toArray, List.set_cons_zero, List.set_cons_succ]
      refine wpAnyH_ready (rs := [6]) (by kernel_rfl) (by simp) ?_
      refine AllReadyH.cons (o := { dst := some 12, op := Op.call { callee := Callee.value (Operand.func 44), args := #[Operand.tmp 10, Operand.tmp 11], argTypes := #[65, 26] }, type := 3, pos := "l08_maps.go:78", after := #[{ on := 4, ground := Ground.data }, { on := 5, ground := Ground.data }, { on := 3, ground := Ground.chain }], guard := none }) rfl (fun K hK => ?_) AllReadyH.nil
      go_simp
      with_reducible refine (cp _ hHeld.2.2.2.2).mono ?_
      rintro e w2 ⟨rfl, hbw2⟩
      have kw2 := put_keep (by assumption) hbw2
      refine hK.out _ _ kw2 (fun hHeld => ?_)
      clear hK K
      try simp only [Act.put, List.setIfInBounds_toArray, List.set_cons_zero, List.set_cons_succ]
      refine wpAnyH_ready (rs := [9]) (by kernel_rfl) (by simp) ?_
      refine AllReadyH.cons (o := { dst := some 15, op := Op.call { callee := Callee.value (Operand.func 43), args := #[Operand.tmp 9, Operand.tmp 12, Operand.tmp 14], argTypes := #[50, 3, 24] }, type := 50, pos := "l08_maps.go:78", after := #[{ on := 3, ground := Ground.data }, { on := 6, ground := Ground.data }, { on := 8, ground := Ground.data }, { on := 6, ground := Ground.chain }], guard := none }) rfl (fun K hK => ?_) AllReadyH.nil
      have hv5 : OwnM _ w.heap.size _ (.slice ua ms.length uc) ms := ((hu.keep hbw1n (Nat.le_refl _)).keep hbw2 hbw1n.size).mono HS.out.2.2.2.2.size (Nat.le_trans hbw1n.size hbw2.size)
      have hx5 := hxw1.kept hbw2
      have hbw := hHeld.2.2.2.2
      go_simp
      with_reducible refine (impl_insert _ ms m (placeGo m.sub ms) w1.heap.size w.heap.size _ hv5 hbw.size (placeGo_le _ _) hx5 (fun e => by have h9 := hu.block _ e; omega) hn).mono ?_
      rintro e w9 ⟨lv, rfl, hl9, hg9⟩
      have hl9 : OwnM w9 w.heap.size w9.heap.size lv (longer ms m) := hl9
      obtain ⟨la, lc, rfl, -⟩ := hl9.form
      have hB9 := hbw.grown hg9 hbw.size (fun k hk => (hv5.block k hk).1)
      have HN := Lib.hid (And.intro hl9 hB9)
      refine hK.out _ _ (put_far (by assumption) hg9 hgl (fun k hk => by have h7 := (hu.block k hk).1; have h8 := hW0s.out; omega) hB9) (fun hHeld => ?_)
      clear hK K
      try simp only [Act.put, List.setIfInBounds_toArray, List.set_cons_zero, List.set_cons_succ]
      refine take_yes (i := 10) (oi := { dst := some 5, op := Op.assign (Operand.tmp 15), type := 50, pos := "l08_maps.go:78", after := #[{ on := 9, ground := Ground.data }, { on := 9, ground := Ground.chain }, { on := 0, ground := Ground.phase }, { on := 1, ground := Ground.phase }, { on := 2, ground := Ground.phase }, { on := 3, ground := Ground.phase }, { on := 4, ground := Ground.phase }, { on := 5, ground := Ground.phase }, { on := 6, ground := Ground.phase }, { on := 7, ground := Ground.phase }, { on := 8, ground := Ground.phase }, { on := 9, ground := Ground.phase }], guard := none }) (v := .slice la (longer ms m).length lc) rfl (by kernel_rfl) (by kernel_rfl) (by kernel_rfl) (fun _ _ _ h => h) (by rfl) (fun w hSw => by (try dsimp only at hSw); go_simp) (by assumption) ?_
      try simp only [Act.put, List.setIfInBounds_toArray, List.set_cons_zero, List.set_cons_succ]
      refine wpAnyH_done (by kernel_rfl) ?_ _
      clear hv5 hx5 hbw hl9 hHeld hg9 hB9
      have hrd9 := HN.out.1.rd
      by_cases hok : mapsOk (longer ms m) = true
      · rw [hok] at cO
        have HP := Lib.hid (show putMap ms m = (longer ms m, true) by unfold putMap; rw [if_pos hok])
        clear hok
        go_wp2_with (fail)
        with_reducible refine (cO _ _ hrd9).mono ?_
        rintro e w10 ⟨rfl, hb10⟩
        obtain ⟨r1, r2, r3, r4, r5⟩ := var_set (w := w) ((HH.out.1.kept HN.out.2).kept hb10) (World.grownBy.refl _ _) (fun e => by have h7 := HH.out.2.block _ e; have h8 := own_var HH.out.2 HH.out.1 _ e; exact h8 rfl) ((HN.out.1.keep hb10 (Nat.le_refl _)).mono hB0 hb10.size) ((Below.then_ HN.out.2 hb10).mono hB0) hBg
        have HE := Lib.hid (And.intro r1 (And.intro r2 r3))
        clear r1 r2 r3 hb10 hrd9 cO co cp
        go_wp2_with (fail)
        go_ret
        rw [HP.out]
        exact ⟨rfl, ⟨_, HE.out.1, HE.out.2.1⟩, HE.out.2.2⟩
      · rw [show mapsOk (longer ms m) = false by simpa using hok] at cO
        have HP := Lib.hid (show putMap ms m = (ms, false) by unfold putMap; rw [if_neg hok])
        clear hok
        go_wp2_with (fail)
        with_reducible refine (cO _ _ hrd9).mono ?_
        rintro e w10 ⟨rfl, hb10⟩
        have hB10 := Below.then_ HN.out.2 hb10
        have HE := Lib.hid (And.intro (HH.out.1.kept hB10) (And.intro ((HH.out.2.keep hB10 (Nat.le_refl _)).mono (Nat.le_refl _) hB10.size) (hB10.mono hB0)))
        clear hB10 hb10 hrd9 cO co cp
        go_wp2_with (fail)
        go_ret
        rw [HP.out]
        exact ⟨rfl, ⟨_, HE.out.1, HE.out.2.1⟩, HE.out.2.2⟩
  · refine AllReadyH.cons (o := { dst := some 14, op := Op.buildSlice 24 1 #[(0, Operand.tmp 13)], type := 24, pos := "l08_maps.go:78", after := #[{ on := 7, ground := Ground.data }], guard := none }) rfl (fun K hK => ?_) AllReadyH.nil
    go_simp
    have hxW0 := Cel.new W0 26 #[.int .i64 m.sub, .int .i64 m.seq, .int .i64 m.len]
    have hbW0n := below_new W0 (.cells #[.int .i64 m.sub, .int .i64 m.seq, .int .i64 m.len] 26)
    have kW0n := put_keep (by assumption) hbW0n
    refine hK.out _ _ kW0n (fun hHeld => ?_)
    clear hK K
    try simp only [Act.put, List.setIfInBounds_toArray, List.set_cons_zero, List.set_cons_succ]
    refine wpAnyH_ready (rs := [3]) (by kernel_rfl) (by simp) ?_
    refine AllReadyH.cons (o := { dst := some 9, op := Op.call { callee := Callee.value (Operand.func 31), args := #[Operand.tmp 8], argTypes := #[24] }, type := 50, pos := "l08_maps.go:78", after := #[{ on := 2, ground := Ground.data }], guard := none }) rfl (fun K hK => ?_) AllReadyH.nil
    go_simp
    with_reducible refine (co _ hHeld.2.2.2.2).mono ?_
    rintro e w1 ⟨u, rfl, hu, hbu⟩
    obtain ⟨ua, uc, rfl, -⟩ := hu.form
    have kw1 := put_keep (by assumption) hbu
    refine hK.out _ _ kw1 (fun hHeld => ?_)
    clear hK K
    try simp only [Act.put, List.setIfInBounds_toArray, List.set_cons_zero, List.set_cons_succ]
    refine wpAnyH_ready (rs := [6]) (by kernel_rfl) (by simp) ?_
    refine AllReadyH.cons (o := { dst := some 12, op := Op.call { callee := Callee.value (Operand.func 44), args := #[Operand.tmp 10, Operand.tmp 11], argTypes := #[65, 26] }, type := 3, pos := "l08_maps.go:78", after := #[{ on := 4, ground := Ground.data }, { on := 5, ground := Ground.data }, { on := 3, ground := Ground.chain }], guard := none }) rfl (fun K hK => ?_) AllReadyH.nil
    go_simp
    with_reducible refine (cp w1 hHeld.2.2.2.2).mono ?_
    rintro e w2 ⟨rfl, hbw2⟩
    have kw2 := put_keep (by assumption) hbw2
    refine hK.out _ _ kw2 (fun hHeld => ?_)
    clear hK K
    try simp only [Act.put, List.setIfInBounds_toArray, List.set_cons_zero, List.set_cons_succ]
    refine wpAnyH_ready (rs := [9]) (by kernel_rfl) (by simp) ?_
    refine AllReadyH.cons (o := { dst := some 15, op := Op.call { callee := Callee.value (Operand.func 43), args := #[Operand.tmp 9, Operand.tmp 12, Operand.tmp 14], argTypes := #[50, 3, 24] }, type := 50, pos := "l08_maps.go:78", after := #[{ on := 3, ground := Ground.data }, { on := 6, ground := Ground.data }, { on := 8, ground := Ground.data }, { on := 6, ground := Ground.chain }], guard := none }) rfl (fun K hK => ?_) AllReadyH.nil
    have hv5 : OwnM _ w.heap.size _ (.slice ua ms.length uc) ms := (hu.keep hbw2 (Nat.le_refl _)).mono (Nat.le_trans HS.out.2.2.2.2.size hbW0n.size) hbw2.size
    have hx5 := (hxW0.kept hbu).kept hbw2
    have hbw := hHeld.2.2.2.2
    go_simp
    with_reducible refine (impl_insert _ ms m (placeGo m.sub ms) W0.heap.size w.heap.size _ hv5 hbw.size (placeGo_le _ _) hx5 (fun e => by have h9 := hu.block _ e; have h8 := hxW0.lt; omega) hn).mono ?_
    rintro e w9 ⟨lv, rfl, hl9, hg9⟩
    have hl9 : OwnM w9 w.heap.size w9.heap.size lv (longer ms m) := hl9
    obtain ⟨la, lc, rfl, -⟩ := hl9.form
    have hB9 := hbw.grown hg9 hbw.size (fun k hk => (hv5.block k hk).1)
    have HN := Lib.hid (And.intro hl9 hB9)
    refine hK.out _ _ (put_far (by assumption) hg9 hgl (fun k hk => by have h7 := (hu.block k hk).1; have h8 := hW0s.out; have h9 := hbW0n.size; omega) hB9) (fun hHeld => ?_)
    clear hK K
    try simp only [Act.put, List.setIfInBounds_toArray, List.set_cons_zero, List.set_cons_succ]
    refine take_yes (i := 10) (oi := { dst := some 5, op := Op.assign (Operand.tmp 15), type := 50, pos := "l08_maps.go:78", after := #[{ on := 9, ground := Ground.data }, { on := 9, ground := Ground.chain }, { on := 0, ground := Ground.phase }, { on := 1, ground := Ground.phase }, { on := 2, ground := Ground.phase }, { on := 3, ground := Ground.phase }, { on := 4, ground := Ground.phase }, { on := 5, ground := Ground.phase }, { on := 6, ground := Ground.phase }, { on := 7, ground := Ground.phase }, { on := 8, ground := Ground.phase }, { on := 9, ground := Ground.phase }], guard := none }) (v := .slice la (longer ms m).length lc) rfl (by kernel_rfl) (by kernel_rfl) (by kernel_rfl) (fun _ _ _ h => h) (by rfl) (fun w hSw => by (try dsimp only at hSw); go_simp) (by assumption) ?_
    try simp only [Act.put, List.setIfInBounds_toArray, List.set_cons_zero, List.set_cons_succ]
    refine wpAnyH_done (by kernel_rfl) ?_ _
    clear hv5 hx5 hbw hl9 hHeld hg9 hB9
    have hrd9 := HN.out.1.rd
    by_cases hok : mapsOk (longer ms m) = true
    · rw [hok] at cO
      have HP := Lib.hid (show putMap ms m = (longer ms m, true) by unfold putMap; rw [if_pos hok])
      clear hok
      go_wp2_with (fail)
      with_reducible refine (cO _ _ hrd9).mono ?_
      rintro e w10 ⟨rfl, hb10⟩
      obtain ⟨r1, r2, r3, r4, r5⟩ := var_set (w := w) ((HH.out.1.kept HN.out.2).kept hb10) (World.grownBy.refl _ _) (fun e => by have h7 := HH.out.2.block _ e; have h8 := own_var HH.out.2 HH.out.1 _ e; exact h8 rfl) ((HN.out.1.keep hb10 (Nat.le_refl _)).mono hB0 hb10.size) ((Below.then_ HN.out.2 hb10).mono hB0) hBg
      have HE := Lib.hid (And.intro r1 (And.intro r2 r3))
      clear r1 r2 r3 hb10 hrd9 cO co cp
      go_wp2_with (fail)
      go_ret
      rw [HP.out]
      exact ⟨rfl, ⟨_, HE.out.1, HE.out.2.1⟩, HE.out.2.2⟩
    · rw [show mapsOk (longer ms m) = false by simpa using hok] at cO
      have HP := Lib.hid (show putMap ms m = (ms, false) by unfold putMap; rw [if_neg hok])
      clear hok
      go_wp2_with (fail)
      with_reducible refine (cO _ _ hrd9).mono ?_
      rintro e w10 ⟨rfl, hb10⟩
      have hB10 := Below.then_ HN.out.2 hb10
      have HE := Lib.hid (And.intro (HH.out.1.kept hB10) (And.intro ((HH.out.2.keep hB10 (Nat.le_refl _)).mono (Nat.le_refl _) hB10.size) (hB10.mono hB0)))
      clear hB10 hb10 hrd9 cO co cp
      go_wp2_with (fail)
      go_ret
      rw [HP.out]
      exact ⟨rfl, ⟨_, HE.out.1, HE.out.2.1⟩, HE.out.2.2⟩
end Go.Proofs.Ytjnobggefofjcaa
