import Derived.Test.YtkpajakangaekabMgA
import Derived.Test.YtkpajakangaekabMgC
import Derived.Test.YtkpajakangaekabMgB
import Derived.Test.YtkpajakangaekabTyn
namespace Go.Proofs.Ytkpajakangaekab
open Go.RowKit
attribute [-go_sem] loadCells loadCellsFrom

theorem first_le (os : List Ov) (n : Int) (K : Nat) (h : ∀ o ∈ os, o.ids.length ≤ K) : (firstOv os n).ids.length ≤ K := by
  unfold firstOv
  cases hf : os.find? (fun o => decide (o.kind = n)) with
  | none => exact Nat.zero_le _
  | some a => exact h a (List.mem_of_find?_eq_some hf)

theorem box_of (W : World) (o : Ov) (u : Value) (cs : Array Value) :
    Cel ((W.alloc (.cells cs 26)).setRow W.heap.size (o.cells u)) W.heap.size 26 (o.cells u) ∧ Below W.heap.size W ((W.alloc (.cells cs 26)).setRow W.heap.size (o.cells u)) :=
  ⟨(Cel.new W 26 cs).row _, below_setRow (g := W.heap.size) (below_new W _) (Nat.le_refl _) _⟩

set_option maxRecDepth 100000 in
set_option maxHeartbeats 1000000 in
theorem mark_seg (x : Sv) (us : Nat → Value) (w : World) (B C g k : Nat) (h : OwnO w B C g x.opts us) (hC : C ≤ w.heap.size) (hn : x.opts.length ≤ 1048576) (hs : sumI x.opts ≤ 1048576) (h1 : 1 ≤ k) (hk : k ≤ 1048576) :
    Calls Try.prog 25 #[.agg (x.cells (.slice (some ⟨g, 0, none⟩) x.opts.length x.opts.length)), .int .i64 (k : Int)] w fun e w' => (∃ q : Nat, e = .returned (.int .i64 (q : Int))) ∧ Below B w w' ∧ ∀ i, i < w.heap.size → ¬ (B ≤ i ∧ i < C) → w'.heap[i]? = w.heap[i]? := by
  have hb := below_new w (.cells (x.cells (.slice (some ⟨g, 0, none⟩) x.opts.length x.opts.length)) 36)
  have c7 := (Cel.new w 36 (x.cells (.slice (some ⟨g, 0, none⟩) x.opts.length x.opts.length))).cell 7
  rw [(Sv.ats x _).2.2.2.2.2.2.2.1] at c7
  have cm := mark_optS x.opts us _ B C g k x.opts.length (h.keep hb hC) (by simp; omega) hn hs h1 hk
  have hlo := h.lo
  have hhi := h.hi
  have HB := Lib.hid hb
  clear h hb
  go_enter Try.func25, Try.ntmps25
  go_wp2_with (fail)
  with_reducible refine cm.mono ?_
  rintro e w2 ⟨⟨q, rfl⟩, hb2, ho⟩
  clear cm c7
  go_wp2_with (fail)
  go_ret
  refine ⟨⟨q, rfl⟩, (HB.out.mono (by omega)).trans hb2, fun i hi hne => ?_⟩
  rw [ho i (by simp; omega) hne]
  exact HB.out.block i hi

structure Fo (w W : World) (x : Sv) (va : Value) (g6 : Nat) (o : Ov) (v6 : Value) : Prop where
  bl : Below w.heap.size w W
  a : Cel W w.heap.size 44 (x.cells va)
  c6 : Cel W g6 26 (o.cells v6)
  r6 : IRow W 0 g6 v6 o.ids
  lo : w.heap.size < g6
structure Fx (w W : World) (x : Sv) (va : Value) (g6 : Nat) (o : Ov) (v6 : Value) (g8 gx B C : Nat) (us : Nat → Value) : Prop extends Fo w W x va g6 o v6 where
  c8 : Cel W g8 36 (x.cells (.slice (some ⟨gx, 0, none⟩) x.opts.length x.opts.length))
  own : OwnO W B C gx x.opts us
  o6 : g6 < B
  o8 : C ≤ g8
structure Fy (w W : World) (x : Sv) (va : Value) (g6 : Nat) (o : Ov) (v6 : Value) (g8 gx B C : Nat) (us : Nat → Value) (g9 b9 : Nat) (v9 : Value) : Prop extends Fx w W x va g6 o v6 g8 gx B C us where
  c9 : Cel W g9 26 (o.cells v9)
  r9 : IRow W b9 g9 v9 o.ids
  o9 : g8 < b9
  o10 : b9 ≤ g9
structure Fz (w W : World) (x : Sv) (va : Value) (g6 : Nat) (o : Ov) (v6 : Value) (g9 b9 : Nat) (v9 : Value) (zs : List Int) : Prop extends Fo w W x va g6 o v6 where
  c9 : Cel W g9 26 (o.cells v9)
  r9 : IRow W b9 g9 v9 zs
  o9 : g6 < b9
  o10 : b9 ≤ g9
section
variable {w W W' : World} {x : Sv} {va v6 v9 : Value} {g6 g8 gx B C g9 b9 : Nat} {o : Ov} {us : Nat → Value} {zs : List Int}
theorem Fo.kept (h : Fo w W x va g6 o v6) (hb : Below W.heap.size W W') : Fo w W' x va g6 o v6 := ⟨Below.then_ h.bl hb, h.a.kept hb, h.c6.kept hb, h.r6.keep hb (Nat.le_of_lt h.c6.lt), h.lo⟩
theorem Fx.kept (h : Fx w W x va g6 o v6 g8 gx B C us) (hb : Below W.heap.size W W') : Fx w W' x va g6 o v6 g8 gx B C us := ⟨h.toFo.kept hb, h.c8.kept hb, h.own.keep hb (Nat.le_trans h.o8 (Nat.le_of_lt h.c8.lt)), h.o6, h.o8⟩
theorem Fy.kept (h : Fy w W x va g6 o v6 g8 gx B C us g9 b9 v9) (hb : Below W.heap.size W W') : Fy w W' x va g6 o v6 g8 gx B C us g9 b9 v9 := ⟨h.toFx.kept hb, h.c9.kept hb, h.r9.keep hb (Nat.le_of_lt h.c9.lt), h.o9, h.o10⟩
theorem Fz.kept (h : Fz w W x va g6 o v6 g9 b9 v9 zs) (hb : Below W.heap.size W W') : Fz w W' x va g6 o v6 g9 b9 v9 zs := ⟨h.toFo.kept hb, h.c9.kept hb, h.r9.keep hb (Nat.le_of_lt h.c9.lt), h.o9, h.o10⟩
theorem Fy.drew (h : Fy w W x va g6 o v6 g8 gx B C us g9 b9 v9) : Fy w W.drew x va g6 o v6 g8 gx B C us g9 b9 v9 := h.kept (Below.refl _ _).drew
theorem Fy.mark (h : Fy w W x va g6 o v6 g8 gx B C us g9 b9 v9) (hb : Below B W W') (ho : ∀ i, i < W.heap.size → ¬ (B ≤ i ∧ i < C) → W'.heap[i]? = W.heap[i]?) : Fz w W' x va g6 o v6 g9 b9 v9 o.ids := by
  have q1 := h.lo
  have q2 := h.o6
  have q3 := h.o8
  have q4 := h.o9
  have q5 := h.o10
  have q6 := h.c9.lt
  refine ⟨⟨h.bl.trans (hb.mono (by omega)), h.a.below hb (by omega), h.c6.below hb (by omega), h.r6.keep hb (by omega), q1⟩, ?_, h.r9.keepAt (fun k hk => ho k ?_ ?_), by have := h.own.lo; have := h.own.hi; omega, q5⟩
  · show W'.heap[g9]? = _
    rw [ho g9 q6 (by omega)]
    exact h.c9
  · have := (h.r9.block k hk).2; omega
  · have := (h.r9.block k hk).1; omega
theorem Fz.marks {ys : List Int} (h : Fz w W x va g6 o v6 g9 b9 v9 zs) (hr : IRow W' b9 g9 v9 ys) (hb : Below b9 W W') (ho : ∀ i, i < W.heap.size → v9.ownBlock ≠ some i → W'.heap[i]? = W.heap[i]?) : Fz w W' x va g6 o v6 g9 b9 v9 ys := by
  have q1 := h.lo
  have q2 := h.o9
  have q5 := h.o10
  refine ⟨⟨h.bl.trans (hb.mono (by omega)), h.a.below hb (by omega), h.c6.below hb (by omega), h.r6.keep hb (by omega), q1⟩, ?_, hr, q2, q5⟩
  show W'.heap[g9]? = _
  rw [ho g9 h.c9.lt (fun hk => by have := (hr.block g9 hk).2; omega)]
  exact h.c9
theorem Fo.loads (h : Fo w W x va g6 o v6) : (loadCells ⟨w.heap.size, 0, none⟩ 9).run Try.prog W = .ok (x.cells va) W ∧ (loadCells ⟨g6, 0, none⟩ 14).run Try.prog W = .ok (o.cells v6) W := ⟨Cel.loadRow h.a 9 (Sv.cells_size _ _), Cel.loadRow2 h.c6 14 (Ov.cells_size _ _)⟩
end

set_option maxRecDepth 100000 in
set_option maxHeartbeats 8000000 in
set_option linter.unusedSimpArgs false in
theorem firstopt_law (x : Sv) (v : Value) (n : Int) (w : World) (hv : RdO w v x.opts) (hf : Fit x) (_hn0 : -9223372036854775808 ≤ n) (_hn1 : n ≤ 9223372036854775807) :
    Calls Try.prog 5 #[.agg (x.cells v), .int .i64 n] w fun e w' => e = .returned (.bool true) ∧ Below w.heap.size w w' := by
  obtain ⟨hfn, hfd, hfb⟩ := hf
  have hB1 := below_new w (.cells (x.cells v) 44)
  have hA1 := Cel.new w 44 (x.cells v)
  obtain ⟨va, vc, rfl⟩ : ∃ a c, v = .slice a x.opts.length c := by obtain ⟨a, c, h, -⟩ := hv; exact ⟨a, c, h⟩
  have l0 : (loadCells ⟨w.heap.size, 0, none⟩ 9).run Try.prog (w.alloc (.cells (x.cells (.slice va x.opts.length vc)) 44)) = .ok (x.cells (.slice va x.opts.length vc)) (w.alloc (.cells (x.cells (.slice va x.opts.length vc)) 44)) := Cel.loadRow hA1 9 (Sv.cells_size _ _)
  have z1 := sz_seg x (.slice va x.opts.length vc) 1048576 _ (hv.below hB1) (by omega) (by omega) hfn hfd hfb
  by_cases h1 : szSv x 1048576 < 0
  · generalize szSv x 1048576 = s1 at z1 h1
    clear hA1 hv hfn hfd hfb
    go_enter Try.func5, Try.ntmps5
    go_wp2_with (fail)
    with_reducible refine z1.mono ?_
    rintro e w2 ⟨rfl, hb2⟩
    clear l0 z1
    go_wp2_with (fail)
    go_ret
    exact ⟨rfl, Below.then_ hB1 hb2⟩
  · obtain ⟨s0, s2, s3, s4, s5⟩ := szSv_in x 1048576 h1
    have hid : ∀ o ∈ x.opts, o.ids.length ≤ 1048576 := fun o ho => by have := s5 o ho; omega
    have hbig : ∀ o ∈ x.opts, o.ids.length ≤ 1048576 ∧ o.key.size ≤ 1048576 ∧ o.mark.size ≤ 1048576 := fun o ho => by have := s5 o ho; omega
    have hol : x.opts.length ≤ 1048576 := by omega
    have hsum : sumI x.opts ≤ 1048576 := by
      have hL : ¬ szL x.opts 1048576 < 0 := fun hq => h1 (by unfold szSv; rw [if_pos hq]; decide)
      have := sumI_L x.opts 1048576 hL
      omega
    have hfo := first_le x.opts n 1048576 hid
    have cA := fun W h => to_seg1 x (.slice va x.opts.length vc) W h hol hid
    have cB := fun W h => to_seg x (.slice va x.opts.length vc) W h hol hid
    have cS := fun u W h => spec_firstOpt x u n W h hol hbig
    have cI := fun u W h => impl_firstOpt x u n W h hol hbig
    have eB := fun u u' W h h' => eq_seg x u u' W h h' hol hid
    have cM := fun us W B C g h hC => mark_seg x us W B C g 1 h hC hol hsum (by omega) (by omega)
    generalize szSv x 1048576 = s1 at z1 h1 s0 s2
    generalize firstOv x.opts n = o at *
    generalize hasK x.opts n = hb at *
    have eO := fun u u' W h h' => eq_opt o u u' W h h' hfo
    have cH := fun u W h => held_opt o u W 1 o.ids.length h rfl hfo (by omega)
    have cK := fun u W B C h hB hC => mark_opt o u W B C 1 h hB hC hfo (by omega)
    obtain ⟨kk, hkk⟩ : ∃ kk, kk = 1 + o.ids.length := ⟨_, rfl⟩
    rw [← hkk] at cH cK
    rw [show (((1 : Nat) : Int)) = (1 : Int) from rfl] at cH cK cM
    have q1 : ¬ (kk : Int) < 0 := by omega
    clear hkk hfo hsum hol hbig hid s5 s4 s3 hfn hfd hfb s2
    go_enter Try.func5, Try.ntmps5
    go_wp2_with (fail)
    with_reducible refine z1.mono ?_
    rintro e w2 ⟨rfl, hb2⟩
    have hA2 := hA1.kept hb2
    have hB2 := Below.then_ hB1 hb2
    have l2 := Cel.loadRow (P := Try.prog) hA2 9 (Sv.cells_size _ _)
    have H2 := Lib.hid (And.intro hA2 hB2)
    clear l0 z1 hb2 hA1 hB1 hA2 hB2
    go_wp2_with (fail)
    with_reducible refine (cA _ (hv.below H2.out.2)).mono ?_
    rintro e w3 ⟨q3, rfl, hp, hb3⟩
    have H3 := Lib.hid (And.intro (H2.out.1.kept hb3) (Below.then_ H2.out.2 hb3))
    clear H2 hb3 l2
    go_wp2_with (fail)
    with_reducible refine (cS _ _ hp).mono ?_
    rintro e w4 ⟨v6, rfl, hI6, hb4⟩
    obtain ⟨pa, pc, rfl⟩ := irow_form0 hI6
    have hz : (w4.alloc (.cells #[.int .i64 0, .int .i64 0, .int .i64 0, .int .i64 0, .int .i64 0, .int .i64 0, .int .i64 0, .int .i64 0, .int .i64 0, .int .i64 0, .bool false, .string ⟨#[]⟩, .string ⟨#[]⟩, .slice none 0 0] 26)).heap[w4.heap.size]? = some (.cells #[.int .i64 0, .int .i64 0, .int .i64 0, .int .i64 0, .int .i64 0, .int .i64 0, .int .i64 0, .int .i64 0, .int .i64 0, .int .i64 0, .bool false, .string ⟨#[]⟩, .string ⟨#[]⟩, .slice none 0 0] 26 (0, 0)) := Cel.new w4 26 #[.int .i64 0, .int .i64 0, .int .i64 0, .int .i64 0, .int .i64 0, .int .i64 0, .int .i64 0, .int .i64 0, .int .i64 0, .int .i64 0, .bool false, .string ⟨#[]⟩, .string ⟨#[]⟩, .slice none 0 0]
    have one := o.cells_one pa o.ids.length pc
    have hss : (#[.int .i64 0, .int .i64 0, .int .i64 0, .int .i64 0, .int .i64 0, .int .i64 0, .int .i64 0, .int .i64 0, .int .i64 0, .int .i64 0, .bool false, .string ⟨#[]⟩, .string ⟨#[]⟩, .slice none 0 0] : Array Value).size = (o.cells (.slice pa o.ids.length pc)).size := by rw [Ov.cells_size]; rfl
    obtain ⟨nc, nb⟩ := box_of w4 o (.slice pa o.ids.length pc) #[.int .i64 0, .int .i64 0, .int .i64 0, .int .i64 0, .int .i64 0, .int .i64 0, .int .i64 0, .int .i64 0, .int .i64 0, .int .i64 0, .bool false, .string ⟨#[]⟩, .string ⟨#[]⟩, .slice none 0 0]
    have k6 : Hid (Fo w _ x (.slice va x.opts.length vc) w4.heap.size o (.slice pa o.ids.length pc)) := Lib.hid (Fo.mk (Below.then_ (Below.then_ H3.out.2 hb4) nb) ((H3.out.1.kept hb4).kept nb) nc ((hI6.wider (Nat.zero_le _) (Nat.le_refl _)).keep nb (Nat.le_refl _)) (Nat.lt_of_lt_of_le H3.out.1.lt hb4.size))
    clear H3 hp hI6 hb4 cS nc nb
    go_upto_region 6 with (with_reducible refine wpList_store_row rfl 26 _ _ rfl _ rfl _ rfl 26 _ hz (sizeOpt' _ _) hss one ?_)
    clear hz one hss
    generalize (w4.alloc (.cells #[.int .i64 0, .int .i64 0, .int .i64 0, .int .i64 0, .int .i64 0, .int .i64 0, .int .i64 0, .int .i64 0, .int .i64 0, .int .i64 0, .bool false, .string ⟨#[]⟩, .string ⟨#[]⟩, .slice none 0 0] 26)).setRow w4.heap.size (o.cells (.slice pa o.ids.length pc)) = w5 at *
    generalize w4.heap.size = g6 at *
    obtain ⟨l1, l2⟩ := k6.out.loads
    go_wp2_with (fail)
    with_reducible refine (cB _ (hv.below k6.out.bl)).mono ?_
    rintro e w6 ⟨gx, rfl, ⟨us, hU⟩, hb6⟩
    have one := x.cells_one (some ⟨gx, 0, none⟩) x.opts.length x.opts.length
    have hz := zeroSeg w6
    have hss : (#[.int .i64 0, .int .i64 0, .int .i64 0, .int .i64 0, .int .i64 0, .int .i64 0, .int .i64 0, .slice none 0 0, .string ⟨#[]⟩] : Array Value).size = (x.cells (.slice (some ⟨gx, 0, none⟩) x.opts.length x.opts.length)).size := by rw [Sv.cells_size]; rfl
    have nr := new_row w6 36 #[.int .i64 0, .int .i64 0, .int .i64 0, .int .i64 0, .int .i64 0, .int .i64 0, .int .i64 0, .slice none 0 0, .string ⟨#[]⟩] (x.cells (.slice (some ⟨gx, 0, none⟩) x.opts.length x.opts.length))
    have k8 : Hid (Fx w _ x (.slice va x.opts.length vc) g6 o (.slice pa o.ids.length pc) w6.heap.size gx w5.heap.size w6.heap.size us) := Lib.hid (Fx.mk ((k6.out.kept hb6).kept nr.2) nr.1 (hU.keep nr.2 (Nat.le_refl _)) k6.out.c6.lt (Nat.le_refl _))
    clear k6 hU hb6 nr l1 l2
    go_upto_region 7 with (with_reducible refine wpList_store_row rfl 36 _ _ rfl _ rfl _ rfl 36 _ hz (sizeSeg' _ _) hss one ?_)
    clear hz one hss
    generalize (w6.alloc (.cells #[.int .i64 0, .int .i64 0, .int .i64 0, .int .i64 0, .int .i64 0, .int .i64 0, .int .i64 0, .slice none 0 0, .string ⟨#[]⟩] 36)).setRow w6.heap.size (x.cells (.slice (some ⟨gx, 0, none⟩) x.opts.length x.opts.length)) = w7 at *
    have l8 := Cel.loadRow (P := Try.prog) k8.out.c8 9 (Sv.cells_size _ _)
    go_wp2_with (fail)
    with_reducible refine (cI _ _ (k8.out.own.rd _)).mono ?_
    rintro e w8 ⟨v9, rfl, hI9, hb8⟩
    obtain ⟨ra, rc, rfl⟩ := irow_form0 hI9
    have hz : (w8.alloc (.cells #[.int .i64 0, .int .i64 0, .int .i64 0, .int .i64 0, .int .i64 0, .int .i64 0, .int .i64 0, .int .i64 0, .int .i64 0, .int .i64 0, .bool false, .string ⟨#[]⟩, .string ⟨#[]⟩, .slice none 0 0] 26)).heap[w8.heap.size]? = some (.cells #[.int .i64 0, .int .i64 0, .int .i64 0, .int .i64 0, .int .i64 0, .int .i64 0, .int .i64 0, .int .i64 0, .int .i64 0, .int .i64 0, .bool false, .string ⟨#[]⟩, .string ⟨#[]⟩, .slice none 0 0] 26 (0, 0)) := Cel.new w8 26 #[.int .i64 0, .int .i64 0, .int .i64 0, .int .i64 0, .int .i64 0, .int .i64 0, .int .i64 0, .int .i64 0, .int .i64 0, .int .i64 0, .bool false, .string ⟨#[]⟩, .string ⟨#[]⟩, .slice none 0 0]
    have one := o.cells_one ra o.ids.length rc
    have hss : (#[.int .i64 0, .int .i64 0, .int .i64 0, .int .i64 0, .int .i64 0, .int .i64 0, .int .i64 0, .int .i64 0, .int .i64 0, .int .i64 0, .bool false, .string ⟨#[]⟩, .string ⟨#[]⟩, .slice none 0 0] : Array Value).size = (o.cells (.slice ra o.ids.length rc)).size := by rw [Ov.cells_size]; rfl
    obtain ⟨nc, nb⟩ := box_of w8 o (.slice ra o.ids.length rc) #[.int .i64 0, .int .i64 0, .int .i64 0, .int .i64 0, .int .i64 0, .int .i64 0, .int .i64 0, .int .i64 0, .int .i64 0, .int .i64 0, .bool false, .string ⟨#[]⟩, .string ⟨#[]⟩, .slice none 0 0]
    have k9 : Hid (Fy w _ x (.slice va x.opts.length vc) g6 o (.slice pa o.ids.length pc) w6.heap.size gx w5.heap.size w6.heap.size us w8.heap.size w7.heap.size (.slice ra o.ids.length rc)) := Lib.hid (Fy.mk ((k8.out.kept hb8).kept nb) nc (hI9.keep nb (Nat.le_refl _)) k8.out.c8.lt hb8.size)
    clear k8 hI9 hb8 nc nb l8
    go_upto_region 8 with (with_reducible refine wpList_store_row rfl 26 _ _ rfl _ rfl _ rfl 26 _ hz (sizeOpt' _ _) hss one ?_)
    clear hz one hss
    generalize (w8.alloc (.cells #[.int .i64 0, .int .i64 0, .int .i64 0, .int .i64 0, .int .i64 0, .int .i64 0, .int .i64 0, .int .i64 0, .int .i64 0, .int .i64 0, .bool false, .string ⟨#[]⟩, .string ⟨#[]⟩, .slice none 0 0] 26)).setRow w8.heap.size (o.cells (.slice ra o.ids.length rc)) = w9 at *
    generalize w8.heap.size = g9 at *
    generalize w6.heap.size = g8 at *
    generalize w5.heap.size = B at *
    generalize w7.heap.size = b9 at *
    obtain ⟨l1, l2⟩ := k9.out.loads
    have l3 := Cel.loadRow2 (P := Try.prog) k9.out.c9 14 (Ov.cells_size _ _)
    go_wp2_with (fail)
    with_reducible refine (eO _ _ _ k9.out.r9.rd k9.out.r6.rd).mono ?_
    rintro e w10 ⟨rfl, hb10⟩
    replace k9 := Lib.hid (k9.out.kept hb10)
    clear l1 l2 l3 hb10
    go_wp2_with (fail)
    replace k9 := Lib.hid k9.out.drew
    have s9 := (And.intro (Cel.loadRow (P := Try.prog) k9.out.c8 9 (Sv.cells_size _ _)) (Cel.loadRow (P := Try.prog) k9.out.a 9 (Sv.cells_size _ _)))
    refine wp_region_held_drew (S := fun W => (loadCells ⟨g8, 0, none⟩ 9).run Try.prog W = .ok (x.cells (.slice (some ⟨gx, 0, none⟩) x.opts.length x.opts.length)) W ∧ (loadCells ⟨w.heap.size, 0, none⟩ 9).run Try.prog W = .ok (x.cells (.slice va x.opts.length vc)) W) (by kernel_rfl) s9 (fun hHeld => ?_)
    refine take_yes (i := 0) (oi := { dst := some 45, op := Op.load 36 (Operand.tmp 8), type := 36, pos := "exact.go:3201", after := #[], guard := none }) (v := .agg (x.cells (.slice (some ⟨gx, 0, none⟩) x.opts.length x.opts.length))) rfl (by kernel_rfl) (by kernel_rfl) (by kernel_rfl) (fun _ _ _ h => h) (by rfl) (fun w hSw => by (try dsimp only at hSw); go_simp) (by assumption) ?_
    try simp only [Act.put, List.setIfInBounds_toArray, List.set_cons_zero, List.set_cons_succ]
    refine take_yes (i := 1) (oi := { dst := some 46, op := Op.load 44 (Operand.tmp 2), type := 44, pos := "exact.go:3201", after := #[], guard := none }) (v := .agg (x.cells (.slice va x.opts.length vc))) rfl (by kernel_rfl) (by kernel_rfl) (by kernel_rfl) (fun _ _ _ h => h) (by rfl) (fun w hSw => by (try dsimp only at hSw); go_simp) (by assumption) ?_
    try simp only [Act.put, List.setIfInBounds_toArray, List.set_cons_zero, List.set_cons_succ]
    refine wpAnyH_ready (rs := [2]) (by kernel_rfl) (by simp) ?_
    refine AllReadyH.cons (o := { dst := some 47, op := Op.call { callee := Callee.value (Operand.func 22), args := #[Operand.tmp 46], argTypes := #[44] }, type := 36, pos := "exact.go:3201", after := #[{ on := 1, ground := Ground.data }], guard := none }) rfl (fun K hK => ?_) AllReadyH.nil
    go_simp
    with_reducible refine (cA _ (hv.below k9.out.bl)).mono ?_
    rintro e wA ⟨gq, rfl, hq, hbA⟩
    have k10 := Lib.hid (k9.out.kept hbA)
    clear hbA k9
    refine hK.out _ _ (And.intro (Cel.loadRow (P := Try.prog) k10.out.c8 9 (Sv.cells_size _ _)) (Cel.loadRow (P := Try.prog) k10.out.a 9 (Sv.cells_size _ _))) (fun hHeldN => ?_)
    clear hK K hHeld
    have hHeld := hHeldN
    clear hHeldN
    try simp only [Act.put, List.setIfInBounds_toArray, List.set_cons_zero, List.set_cons_succ]
    refine wpAnyH_ready (rs := [3]) (by kernel_rfl) (by simp) ?_
    refine AllReadyH.cons (o := { dst := some 48, op := Op.call { callee := Callee.value (Operand.func 24), args := #[Operand.tmp 45, Operand.tmp 47], argTypes := #[36, 36] }, type := 4, pos := "exact.go:3201", after := #[{ on := 0, ground := Ground.data }, { on := 2, ground := Ground.data }, { on := 2, ground := Ground.chain }], guard := none }) rfl (fun K hK => ?_) AllReadyH.nil
    go_simp
    with_reducible refine (eB _ _ _ (k10.out.own.rd _) hq).mono ?_
    rintro e wB ⟨rfl, hbB⟩
    have k11 := Lib.hid (k10.out.kept hbB)
    clear hbB k10 hq
    refine hK.out _ _ (And.intro (Cel.loadRow (P := Try.prog) k11.out.c8 9 (Sv.cells_size _ _)) (Cel.loadRow (P := Try.prog) k11.out.a 9 (Sv.cells_size _ _))) (fun hHeldN => ?_)
    clear hK K hHeld
    have hHeld := hHeldN
    clear hHeldN
    try simp only [Act.put, List.setIfInBounds_toArray, List.set_cons_zero, List.set_cons_succ]
    refine take_yes (i := 4) (oi := { dst := some 49, op := Op.unOp UnOp.not 4 (Operand.tmp 48), type := 4, pos := "exact.go:3201", after := #[{ on := 3, ground := Ground.data }], guard := none }) (v := .bool false) rfl (by kernel_rfl) (by kernel_rfl) (by kernel_rfl) (fun _ _ _ h => h) (by rfl) (fun w hSw => by (try dsimp only at hSw); go_simp) (by assumption) ?_
    try simp only [Act.put, List.setIfInBounds_toArray, List.set_cons_zero, List.set_cons_succ]
    refine wpAnyH_done (by kernel_rfl) ?_ _
    clear hHeld
    clear s9
    have l8 := Cel.loadRow (P := Try.prog) k11.out.c8 9 (Sv.cells_size _ _)
    go_wp2_with (fail)
    with_reducible refine (cM _ _ _ _ _ k11.out.own (Nat.le_trans k11.out.o8 (Nat.le_of_lt k11.out.c8.lt))).mono ?_
    rintro e w12 ⟨⟨qm, rfl⟩, hbm, hom⟩
    have k12 := Lib.hid (k11.out.mark hbm hom)
    have q2 : ¬ (qm : Int) < 0 := by omega
    clear l8 k11 hbm hom cM
    obtain ⟨l1, l2⟩ := k12.out.loads
    have l3 := Cel.loadRow2 (P := Try.prog) k12.out.c9 14 (Ov.cells_size _ _)
    go_wp2_with (fail)
    with_reducible refine (eO _ _ _ k12.out.r9.rd k12.out.r6.rd).mono ?_
    rintro e w13 ⟨rfl, hb13⟩
    replace k12 := Lib.hid (k12.out.kept hb13)
    clear l1 l2 l3 hb13
    have l3 := Cel.loadRow2 (P := Try.prog) k12.out.c9 14 (Ov.cells_size _ _)
    go_wp2_with (fail)
    with_reducible refine (cK _ _ _ _ k12.out.r9 (by have := k12.out.o10; have := k12.out.c9.lt; omega) (Nat.le_of_lt k12.out.c9.lt)).mono ?_
    rintro e w14 ⟨rfl, hrm, hbm, hzm, hom⟩
    have k14 := Lib.hid (k12.out.marks hrm hbm hom)
    clear k12 hrm hbm hzm hom cK l3
    have l3 := Cel.loadRow2 (P := Try.prog) k14.out.c9 14 (Ov.cells_size _ _)
    go_wp2_with (fail)
    with_reducible refine (cH _ _ k14.out.r9.rd).mono ?_
    rintro e w15 ⟨rfl, hb15⟩
    replace k14 := Lib.hid (k14.out.kept hb15)
    clear hb15 l3
    obtain ⟨l1, l2⟩ := k14.out.loads
    go_wp2_with (fail)
    with_reducible refine (cA _ (hv.below k14.out.bl)).mono ?_
    rintro e w16 ⟨q16, rfl, hp, hb16⟩
    replace k14 := Lib.hid (k14.out.kept hb16)
    clear l1 l2 hb16
    go_wp2_with (fail)
    with_reducible refine (cI _ _ hp).mono ?_
    rintro e w17 ⟨v17, rfl, hI, hb17⟩
    obtain ⟨ta, tc, rfl⟩ := irow_form0 hI
    have hz : (w17.alloc (.cells #[.int .i64 0, .int .i64 0, .int .i64 0, .int .i64 0, .int .i64 0, .int .i64 0, .int .i64 0, .int .i64 0, .int .i64 0, .int .i64 0, .bool false, .string ⟨#[]⟩, .string ⟨#[]⟩, .slice none 0 0] 26)).heap[w17.heap.size]? = some (.cells #[.int .i64 0, .int .i64 0, .int .i64 0, .int .i64 0, .int .i64 0, .int .i64 0, .int .i64 0, .int .i64 0, .int .i64 0, .int .i64 0, .bool false, .string ⟨#[]⟩, .string ⟨#[]⟩, .slice none 0 0] 26 (0, 0)) := Cel.new w17 26 #[.int .i64 0, .int .i64 0, .int .i64 0, .int .i64 0, .int .i64 0, .int .i64 0, .int .i64 0, .int .i64 0, .int .i64 0, .int .i64 0, .bool false, .string ⟨#[]⟩, .string ⟨#[]⟩, .slice none 0 0]
    have one := o.cells_one ta o.ids.length tc
    have hss : (#[.int .i64 0, .int .i64 0, .int .i64 0, .int .i64 0, .int .i64 0, .int .i64 0, .int .i64 0, .int .i64 0, .int .i64 0, .int .i64 0, .bool false, .string ⟨#[]⟩, .string ⟨#[]⟩, .slice none 0 0] : Array Value).size = (o.cells (.slice ta o.ids.length tc)).size := by rw [Ov.cells_size]; rfl
    obtain ⟨nc, nb⟩ := box_of w17 o (.slice ta o.ids.length tc) #[.int .i64 0, .int .i64 0, .int .i64 0, .int .i64 0, .int .i64 0, .int .i64 0, .int .i64 0, .int .i64 0, .int .i64 0, .int .i64 0, .bool false, .string ⟨#[]⟩, .string ⟨#[]⟩, .slice none 0 0]
    have k18 := Lib.hid (And.intro ((k14.out.kept hb17).kept nb) (And.intro nc (hI.keep nb (Nat.le_refl _)).rd))
    clear k14 hp hI hb17 nc nb cI
    go_upto_region 25 with (with_reducible refine wpList_store_row rfl 26 _ _ rfl _ rfl _ rfl 26 _ hz (sizeOpt' _ _) hss one ?_)
    clear hz one hss
    generalize (w17.alloc (.cells #[.int .i64 0, .int .i64 0, .int .i64 0, .int .i64 0, .int .i64 0, .int .i64 0, .int .i64 0, .int .i64 0, .int .i64 0, .int .i64 0, .bool false, .string ⟨#[]⟩, .string ⟨#[]⟩, .slice none 0 0] 26)).setRow w17.heap.size (o.cells (.slice ta o.ids.length tc)) = w18 at *
    generalize w17.heap.size = g14 at *
    obtain ⟨l1, l2⟩ := k18.out.1.loads
    have l3 := Cel.loadRow2 (P := Try.prog) k18.out.2.1 14 (Ov.cells_size _ _)
    go_wp2_with (fail)
    with_reducible refine (eO _ _ _ k18.out.2.2 k18.out.1.r6.rd).mono ?_
    rintro e w19 ⟨rfl, hb19⟩
    have k19 := Lib.hid (k18.out.1.kept hb19)
    clear k18 l1 l2 l3 hb19
    have l3 := Cel.loadRow2 (P := Try.prog) k19.out.c9 14 (Ov.cells_size _ _)
    go_wp2_with (fail)
    with_reducible refine (cH _ _ k19.out.r9.rd).mono ?_
    rintro e w20 ⟨rfl, hb20⟩
    have HF := Lib.hid (k19.out.kept hb20).bl
    clear k19 l3 hb20
    go_wp2_with (fail)
    go_ret
    exact ⟨rfl, HF.out⟩
end Go.Proofs.Ytkpajakangaekab
