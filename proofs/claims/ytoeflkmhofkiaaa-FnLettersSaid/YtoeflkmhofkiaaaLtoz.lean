import Derived.Test.YtoeflkmhofkiaaaZ3
namespace Go.Proofs.Ytoeflkmhofkiaaa
open Go.RowKit
set_option maxRecDepth 100000

/-- The cells, closed. -/
def lvC (m : Lv) : Array Value := #[.int .i64 m.kind, .int .i64 m.frm, .int .i64 m.to, .int .i64 m.port, .int .i64 m.key, .int .i64 m.token, .int .i64 m.nonce, .int .i64 m.give, .int .i64 m.sign, .int .i64 m.tag.kind, .int .i64 m.tag.one, .int .i64 m.tag.two, .int .i64 m.tag.a, .int .i64 m.tag.b, .int .i64 m.id, .int .i64 m.addr, .bool m.spare, .int .i64 m.pos, .string m.text]
theorem lvC_eq (m : Lv) : lvC m = #[.int .i64 m.kind, .int .i64 m.frm, .int .i64 m.to, .int .i64 m.port, .int .i64 m.key, .int .i64 m.token, .int .i64 m.nonce, .int .i64 m.give, .int .i64 m.sign, .int .i64 m.tag.kind, .int .i64 m.tag.one, .int .i64 m.tag.two, .int .i64 m.tag.a, .int .i64 m.tag.b, .int .i64 m.id, .int .i64 m.addr, .bool m.spare, .int .i64 m.pos, .string m.text] := rfl
attribute [irreducible] lvC
theorem row_belowlv {B g : Nat} {w W : World} (h : Below B w W) (hg : B ≤ g) (cs : Array Value) : Below B w (W.setRow g cs) :=
  ⟨h.os, h.tape, h.output, by rw [show ∀ (W : World) g cs, (W.setRow g cs).heap.size = W.heap.size from fun W g cs => by simp [World.setRow]]; exact h.size, fun k hk => by
    show ((World.heap _).modify _ _)[k]? = _
    rw [Array.getElem?_modify, if_neg (by omega)]
    exact h.block k hk⟩
set_option maxRecDepth 100000 in
set_option maxHeartbeats 8000000 in
theorem to_letter (m : Lv) (w : World) :
    Calls Try.prog 35 #[.agg #[.int .i64 m.kind, .int .i64 m.frm, .int .i64 m.to, .int .i64 m.port, .int .i64 m.key, .int .i64 m.token, .int .i64 m.nonce, .int .i64 m.give, .int .i64 m.sign, .int .i64 m.tag.kind, .int .i64 m.tag.one, .int .i64 m.tag.two, .int .i64 m.tag.a, .int .i64 m.tag.b, .int .i64 m.id, .int .i64 m.addr, .bool m.spare, .int .i64 m.pos, .string m.text]] w fun e w' => e = .returned (.agg #[.int .i64 m.kind, .int .i64 m.frm, .int .i64 m.to, .int .i64 m.port, .int .i64 m.key, .int .i64 m.token, .int .i64 m.nonce, .int .i64 m.give, .int .i64 m.sign, .int .i64 m.tag.kind, .int .i64 m.tag.one, .int .i64 m.tag.two, .int .i64 m.tag.a, .int .i64 m.tag.b, .int .i64 m.id, .int .i64 m.addr, .bool m.spare, .int .i64 m.pos, .string m.text]) ∧ Below w.heap.size w w' := by
  have c0 := fun W => to_tag m.tag W
  have hA0 := ((Cel.new w 61 #[.int .i64 m.kind, .int .i64 m.frm, .int .i64 m.to, .int .i64 m.port, .int .i64 m.key, .int .i64 m.token, .int .i64 m.nonce, .int .i64 m.give, .int .i64 m.sign, .int .i64 m.tag.kind, .int .i64 m.tag.one, .int .i64 m.tag.two, .int .i64 m.tag.a, .int .i64 m.tag.b, .int .i64 m.id, .int .i64 m.addr, .bool m.spare, .int .i64 m.pos, .string m.text]).alloc (.cells #[.int .i64 0, .int .i64 0, .int .i64 0, .int .i64 0, .int .i64 0, .int .i64 0, .int .i64 0, .int .i64 0, .int .i64 0, .int .i64 0, .int .i64 0, .int .i64 0, .int .i64 0, .int .i64 0, .int .i64 0, .int .i64 0, .bool false, .int .i64 0, .string ⟨#[]⟩] 41)).alloc (.cells #[.int .i64 0, .int .i64 0, .int .i64 0, .int .i64 0, .int .i64 0, .int .i64 0, .int .i64 0, .int .i64 0, .int .i64 0, .int .i64 0, .int .i64 0, .int .i64 0, .int .i64 0, .int .i64 0, .int .i64 0, .int .i64 0, .bool false, .int .i64 0, .string ⟨#[]⟩] 41)
  have hZ0 := (Cel.new (w.alloc (.cells #[.int .i64 m.kind, .int .i64 m.frm, .int .i64 m.to, .int .i64 m.port, .int .i64 m.key, .int .i64 m.token, .int .i64 m.nonce, .int .i64 m.give, .int .i64 m.sign, .int .i64 m.tag.kind, .int .i64 m.tag.one, .int .i64 m.tag.two, .int .i64 m.tag.a, .int .i64 m.tag.b, .int .i64 m.id, .int .i64 m.addr, .bool m.spare, .int .i64 m.pos, .string m.text] 61)) 41 #[.int .i64 0, .int .i64 0, .int .i64 0, .int .i64 0, .int .i64 0, .int .i64 0, .int .i64 0, .int .i64 0, .int .i64 0, .int .i64 0, .int .i64 0, .int .i64 0, .int .i64 0, .int .i64 0, .int .i64 0, .int .i64 0, .bool false, .int .i64 0, .string ⟨#[]⟩]).alloc (.cells #[.int .i64 0, .int .i64 0, .int .i64 0, .int .i64 0, .int .i64 0, .int .i64 0, .int .i64 0, .int .i64 0, .int .i64 0, .int .i64 0, .int .i64 0, .int .i64 0, .int .i64 0, .int .i64 0, .int .i64 0, .int .i64 0, .bool false, .int .i64 0, .string ⟨#[]⟩] 41)
  have hO0 := Cel.new ((w.alloc (.cells #[.int .i64 m.kind, .int .i64 m.frm, .int .i64 m.to, .int .i64 m.port, .int .i64 m.key, .int .i64 m.token, .int .i64 m.nonce, .int .i64 m.give, .int .i64 m.sign, .int .i64 m.tag.kind, .int .i64 m.tag.one, .int .i64 m.tag.two, .int .i64 m.tag.a, .int .i64 m.tag.b, .int .i64 m.id, .int .i64 m.addr, .bool m.spare, .int .i64 m.pos, .string m.text] 61)).alloc (.cells #[.int .i64 0, .int .i64 0, .int .i64 0, .int .i64 0, .int .i64 0, .int .i64 0, .int .i64 0, .int .i64 0, .int .i64 0, .int .i64 0, .int .i64 0, .int .i64 0, .int .i64 0, .int .i64 0, .int .i64 0, .int .i64 0, .bool false, .int .i64 0, .string ⟨#[]⟩] 41)) 41 #[.int .i64 0, .int .i64 0, .int .i64 0, .int .i64 0, .int .i64 0, .int .i64 0, .int .i64 0, .int .i64 0, .int .i64 0, .int .i64 0, .int .i64 0, .int .i64 0, .int .i64 0, .int .i64 0, .int .i64 0, .int .i64 0, .bool false, .int .i64 0, .string ⟨#[]⟩]
  have hB0 : Below w.heap.size w (((w.alloc (.cells #[.int .i64 m.kind, .int .i64 m.frm, .int .i64 m.to, .int .i64 m.port, .int .i64 m.key, .int .i64 m.token, .int .i64 m.nonce, .int .i64 m.give, .int .i64 m.sign, .int .i64 m.tag.kind, .int .i64 m.tag.one, .int .i64 m.tag.two, .int .i64 m.tag.a, .int .i64 m.tag.b, .int .i64 m.id, .int .i64 m.addr, .bool m.spare, .int .i64 m.pos, .string m.text] 61)).alloc (.cells #[.int .i64 0, .int .i64 0, .int .i64 0, .int .i64 0, .int .i64 0, .int .i64 0, .int .i64 0, .int .i64 0, .int .i64 0, .int .i64 0, .int .i64 0, .int .i64 0, .int .i64 0, .int .i64 0, .int .i64 0, .int .i64 0, .bool false, .int .i64 0, .string ⟨#[]⟩] 41)).alloc (.cells #[.int .i64 0, .int .i64 0, .int .i64 0, .int .i64 0, .int .i64 0, .int .i64 0, .int .i64 0, .int .i64 0, .int .i64 0, .int .i64 0, .int .i64 0, .int .i64 0, .int .i64 0, .int .i64 0, .int .i64 0, .int .i64 0, .bool false, .int .i64 0, .string ⟨#[]⟩] 41)) := ((((Below.refl _ _).alloc (Nat.le_refl _) _).alloc (by simp) _).alloc (by simp; omega) _)
  simp only [World.size_alloc] at hZ0 hO0
  obtain ⟨W0, hW0⟩ : ∃ W0, (((w.alloc (.cells #[.int .i64 m.kind, .int .i64 m.frm, .int .i64 m.to, .int .i64 m.port, .int .i64 m.key, .int .i64 m.token, .int .i64 m.nonce, .int .i64 m.give, .int .i64 m.sign, .int .i64 m.tag.kind, .int .i64 m.tag.one, .int .i64 m.tag.two, .int .i64 m.tag.a, .int .i64 m.tag.b, .int .i64 m.id, .int .i64 m.addr, .bool m.spare, .int .i64 m.pos, .string m.text] 61)).alloc (.cells #[.int .i64 0, .int .i64 0, .int .i64 0, .int .i64 0, .int .i64 0, .int .i64 0, .int .i64 0, .int .i64 0, .int .i64 0, .int .i64 0, .int .i64 0, .int .i64 0, .int .i64 0, .int .i64 0, .int .i64 0, .int .i64 0, .bool false, .int .i64 0, .string ⟨#[]⟩] 41)).alloc (.cells #[.int .i64 0, .int .i64 0, .int .i64 0, .int .i64 0, .int .i64 0, .int .i64 0, .int .i64 0, .int .i64 0, .int .i64 0, .int .i64 0, .int .i64 0, .int .i64 0, .int .i64 0, .int .i64 0, .int .i64 0, .int .i64 0, .bool false, .int .i64 0, .string ⟨#[]⟩] 41)) = W0 := ⟨_, rfl⟩
  rw [hW0] at hA0 hZ0 hO0 hB0
  have HW := Lib.hid hW0
  have H0 := Lib.hid (And.intro hA0 (And.intro hZ0 (And.intro hO0 hB0)))
  clear hA0 hZ0 hO0 hB0 hW0
  go_enter Try.func35, Try.ntmps35
  go_upto_region 2 with (fail)
  rw [HW.out]
  clear HW
  have k0 : W0.cell? ⟨w.heap.size, 0, none⟩ = some (.int .i64 m.kind) := H0.out.1.cell 0
  have q0 : W0.cell? ⟨w.heap.size + 2, 0, none⟩ = some (.int .i64 0) := H0.out.2.2.1.cell 0
  have f0 := H0.out.2.2.1.frozen 0
  have hO : Cel (W0.setCell ⟨w.heap.size + 2, 0, none⟩ (.int .i64 m.kind)) (w.heap.size + 2) 41 #[.int .i64 m.kind, .int .i64 0, .int .i64 0, .int .i64 0, .int .i64 0, .int .i64 0, .int .i64 0, .int .i64 0, .int .i64 0, .int .i64 0, .int .i64 0, .int .i64 0, .int .i64 0, .int .i64 0, .int .i64 0, .int .i64 0, .bool false, .int .i64 0, .string ⟨#[]⟩] := ((H0.out.2.2.1).set 0 (.int .i64 m.kind))
  have HN := Lib.hid (And.intro ((H0.out.1).other ⟨w.heap.size + 2, 0, none⟩ (.int .i64 m.kind) (by simp)) (And.intro ((H0.out.2.1).other ⟨w.heap.size + 2, 0, none⟩ (.int .i64 m.kind) (by simp)) (And.intro hO ((H0.out.2.2.2).setCell (p := ⟨w.heap.size + 2, 0, none⟩) (by simp) (.int .i64 m.kind)))))
  clear hO
  go_upto_region 3 with (fail)
  clear q0 f0 k0 H0
  generalize (W0.setCell ⟨w.heap.size + 2, 0, none⟩ (.int .i64 m.kind)) = W1 at *
  have H1 := HN
  clear HN
  have k0 : W1.cell? ⟨w.heap.size, 1, none⟩ = some (.int .i64 m.frm) := H1.out.1.cell 1
  have q0 : W1.cell? ⟨w.heap.size + 2, 1, none⟩ = some (.int .i64 0) := H1.out.2.2.1.cell 1
  have f0 := H1.out.2.2.1.frozen 1
  have hO : Cel (W1.setCell ⟨w.heap.size + 2, 1, none⟩ (.int .i64 m.frm)) (w.heap.size + 2) 41 #[.int .i64 m.kind, .int .i64 m.frm, .int .i64 0, .int .i64 0, .int .i64 0, .int .i64 0, .int .i64 0, .int .i64 0, .int .i64 0, .int .i64 0, .int .i64 0, .int .i64 0, .int .i64 0, .int .i64 0, .int .i64 0, .int .i64 0, .bool false, .int .i64 0, .string ⟨#[]⟩] := ((H1.out.2.2.1).set 1 (.int .i64 m.frm))
  have HN := Lib.hid (And.intro ((H1.out.1).other ⟨w.heap.size + 2, 1, none⟩ (.int .i64 m.frm) (by simp)) (And.intro ((H1.out.2.1).other ⟨w.heap.size + 2, 1, none⟩ (.int .i64 m.frm) (by simp)) (And.intro hO ((H1.out.2.2.2).setCell (p := ⟨w.heap.size + 2, 1, none⟩) (by simp) (.int .i64 m.frm)))))
  clear hO
  go_upto_region 4 with (fail)
  clear q0 f0 k0 H1
  generalize (W1.setCell ⟨w.heap.size + 2, 1, none⟩ (.int .i64 m.frm)) = W2 at *
  have H2 := HN
  clear HN
  have k0 : W2.cell? ⟨w.heap.size, 2, none⟩ = some (.int .i64 m.to) := H2.out.1.cell 2
  have q0 : W2.cell? ⟨w.heap.size + 2, 2, none⟩ = some (.int .i64 0) := H2.out.2.2.1.cell 2
  have f0 := H2.out.2.2.1.frozen 2
  have hO : Cel (W2.setCell ⟨w.heap.size + 2, 2, none⟩ (.int .i64 m.to)) (w.heap.size + 2) 41 #[.int .i64 m.kind, .int .i64 m.frm, .int .i64 m.to, .int .i64 0, .int .i64 0, .int .i64 0, .int .i64 0, .int .i64 0, .int .i64 0, .int .i64 0, .int .i64 0, .int .i64 0, .int .i64 0, .int .i64 0, .int .i64 0, .int .i64 0, .bool false, .int .i64 0, .string ⟨#[]⟩] := ((H2.out.2.2.1).set 2 (.int .i64 m.to))
  have HN := Lib.hid (And.intro ((H2.out.1).other ⟨w.heap.size + 2, 2, none⟩ (.int .i64 m.to) (by simp)) (And.intro ((H2.out.2.1).other ⟨w.heap.size + 2, 2, none⟩ (.int .i64 m.to) (by simp)) (And.intro hO ((H2.out.2.2.2).setCell (p := ⟨w.heap.size + 2, 2, none⟩) (by simp) (.int .i64 m.to)))))
  clear hO
  go_upto_region 5 with (fail)
  clear q0 f0 k0 H2
  generalize (W2.setCell ⟨w.heap.size + 2, 2, none⟩ (.int .i64 m.to)) = W3 at *
  have H3 := HN
  clear HN
  have k0 : W3.cell? ⟨w.heap.size, 3, none⟩ = some (.int .i64 m.port) := H3.out.1.cell 3
  have q0 : W3.cell? ⟨w.heap.size + 2, 3, none⟩ = some (.int .i64 0) := H3.out.2.2.1.cell 3
  have f0 := H3.out.2.2.1.frozen 3
  have hO : Cel (W3.setCell ⟨w.heap.size + 2, 3, none⟩ (.int .i64 m.port)) (w.heap.size + 2) 41 #[.int .i64 m.kind, .int .i64 m.frm, .int .i64 m.to, .int .i64 m.port, .int .i64 0, .int .i64 0, .int .i64 0, .int .i64 0, .int .i64 0, .int .i64 0, .int .i64 0, .int .i64 0, .int .i64 0, .int .i64 0, .int .i64 0, .int .i64 0, .bool false, .int .i64 0, .string ⟨#[]⟩] := ((H3.out.2.2.1).set 3 (.int .i64 m.port))
  have HN := Lib.hid (And.intro ((H3.out.1).other ⟨w.heap.size + 2, 3, none⟩ (.int .i64 m.port) (by simp)) (And.intro ((H3.out.2.1).other ⟨w.heap.size + 2, 3, none⟩ (.int .i64 m.port) (by simp)) (And.intro hO ((H3.out.2.2.2).setCell (p := ⟨w.heap.size + 2, 3, none⟩) (by simp) (.int .i64 m.port)))))
  clear hO
  go_upto_region 6 with (fail)
  clear q0 f0 k0 H3
  generalize (W3.setCell ⟨w.heap.size + 2, 3, none⟩ (.int .i64 m.port)) = W4 at *
  have H4 := HN
  clear HN
  have k0 : W4.cell? ⟨w.heap.size, 4, none⟩ = some (.int .i64 m.key) := H4.out.1.cell 4
  have q0 : W4.cell? ⟨w.heap.size + 2, 4, none⟩ = some (.int .i64 0) := H4.out.2.2.1.cell 4
  have f0 := H4.out.2.2.1.frozen 4
  have hO : Cel (W4.setCell ⟨w.heap.size + 2, 4, none⟩ (.int .i64 m.key)) (w.heap.size + 2) 41 #[.int .i64 m.kind, .int .i64 m.frm, .int .i64 m.to, .int .i64 m.port, .int .i64 m.key, .int .i64 0, .int .i64 0, .int .i64 0, .int .i64 0, .int .i64 0, .int .i64 0, .int .i64 0, .int .i64 0, .int .i64 0, .int .i64 0, .int .i64 0, .bool false, .int .i64 0, .string ⟨#[]⟩] := ((H4.out.2.2.1).set 4 (.int .i64 m.key))
  have HN := Lib.hid (And.intro ((H4.out.1).other ⟨w.heap.size + 2, 4, none⟩ (.int .i64 m.key) (by simp)) (And.intro ((H4.out.2.1).other ⟨w.heap.size + 2, 4, none⟩ (.int .i64 m.key) (by simp)) (And.intro hO ((H4.out.2.2.2).setCell (p := ⟨w.heap.size + 2, 4, none⟩) (by simp) (.int .i64 m.key)))))
  clear hO
  go_upto_region 7 with (fail)
  clear q0 f0 k0 H4
  generalize (W4.setCell ⟨w.heap.size + 2, 4, none⟩ (.int .i64 m.key)) = W5 at *
  have H5 := HN
  clear HN
  have k0 : W5.cell? ⟨w.heap.size, 5, none⟩ = some (.int .i64 m.token) := H5.out.1.cell 5
  have q0 : W5.cell? ⟨w.heap.size + 2, 5, none⟩ = some (.int .i64 0) := H5.out.2.2.1.cell 5
  have f0 := H5.out.2.2.1.frozen 5
  have hO : Cel (W5.setCell ⟨w.heap.size + 2, 5, none⟩ (.int .i64 m.token)) (w.heap.size + 2) 41 #[.int .i64 m.kind, .int .i64 m.frm, .int .i64 m.to, .int .i64 m.port, .int .i64 m.key, .int .i64 m.token, .int .i64 0, .int .i64 0, .int .i64 0, .int .i64 0, .int .i64 0, .int .i64 0, .int .i64 0, .int .i64 0, .int .i64 0, .int .i64 0, .bool false, .int .i64 0, .string ⟨#[]⟩] := ((H5.out.2.2.1).set 5 (.int .i64 m.token))
  have HN := Lib.hid (And.intro ((H5.out.1).other ⟨w.heap.size + 2, 5, none⟩ (.int .i64 m.token) (by simp)) (And.intro ((H5.out.2.1).other ⟨w.heap.size + 2, 5, none⟩ (.int .i64 m.token) (by simp)) (And.intro hO ((H5.out.2.2.2).setCell (p := ⟨w.heap.size + 2, 5, none⟩) (by simp) (.int .i64 m.token)))))
  clear hO
  go_upto_region 8 with (fail)
  clear q0 f0 k0 H5
  generalize (W5.setCell ⟨w.heap.size + 2, 5, none⟩ (.int .i64 m.token)) = W6 at *
  have H6 := HN
  clear HN
  have k0 : W6.cell? ⟨w.heap.size, 6, none⟩ = some (.int .i64 m.nonce) := H6.out.1.cell 6
  have q0 : W6.cell? ⟨w.heap.size + 2, 6, none⟩ = some (.int .i64 0) := H6.out.2.2.1.cell 6
  have f0 := H6.out.2.2.1.frozen 6
  have hO : Cel (W6.setCell ⟨w.heap.size + 2, 6, none⟩ (.int .i64 m.nonce)) (w.heap.size + 2) 41 #[.int .i64 m.kind, .int .i64 m.frm, .int .i64 m.to, .int .i64 m.port, .int .i64 m.key, .int .i64 m.token, .int .i64 m.nonce, .int .i64 0, .int .i64 0, .int .i64 0, .int .i64 0, .int .i64 0, .int .i64 0, .int .i64 0, .int .i64 0, .int .i64 0, .bool false, .int .i64 0, .string ⟨#[]⟩] := ((H6.out.2.2.1).set 6 (.int .i64 m.nonce))
  have HN := Lib.hid (And.intro ((H6.out.1).other ⟨w.heap.size + 2, 6, none⟩ (.int .i64 m.nonce) (by simp)) (And.intro ((H6.out.2.1).other ⟨w.heap.size + 2, 6, none⟩ (.int .i64 m.nonce) (by simp)) (And.intro hO ((H6.out.2.2.2).setCell (p := ⟨w.heap.size + 2, 6, none⟩) (by simp) (.int .i64 m.nonce)))))
  clear hO
  go_upto_region 9 with (fail)
  clear q0 f0 k0 H6
  generalize (W6.setCell ⟨w.heap.size + 2, 6, none⟩ (.int .i64 m.nonce)) = W7 at *
  have H7 := HN
  clear HN
  have k0 : W7.cell? ⟨w.heap.size, 7, none⟩ = some (.int .i64 m.give) := H7.out.1.cell 7
  have q0 : W7.cell? ⟨w.heap.size + 2, 7, none⟩ = some (.int .i64 0) := H7.out.2.2.1.cell 7
  have f0 := H7.out.2.2.1.frozen 7
  have hO : Cel (W7.setCell ⟨w.heap.size + 2, 7, none⟩ (.int .i64 m.give)) (w.heap.size + 2) 41 #[.int .i64 m.kind, .int .i64 m.frm, .int .i64 m.to, .int .i64 m.port, .int .i64 m.key, .int .i64 m.token, .int .i64 m.nonce, .int .i64 m.give, .int .i64 0, .int .i64 0, .int .i64 0, .int .i64 0, .int .i64 0, .int .i64 0, .int .i64 0, .int .i64 0, .bool false, .int .i64 0, .string ⟨#[]⟩] := ((H7.out.2.2.1).set 7 (.int .i64 m.give))
  have HN := Lib.hid (And.intro ((H7.out.1).other ⟨w.heap.size + 2, 7, none⟩ (.int .i64 m.give) (by simp)) (And.intro ((H7.out.2.1).other ⟨w.heap.size + 2, 7, none⟩ (.int .i64 m.give) (by simp)) (And.intro hO ((H7.out.2.2.2).setCell (p := ⟨w.heap.size + 2, 7, none⟩) (by simp) (.int .i64 m.give)))))
  clear hO
  go_upto_region 10 with (fail)
  clear q0 f0 k0 H7
  generalize (W7.setCell ⟨w.heap.size + 2, 7, none⟩ (.int .i64 m.give)) = W8 at *
  have H8 := HN
  clear HN
  have k0 : W8.cell? ⟨w.heap.size, 8, none⟩ = some (.int .i64 m.sign) := H8.out.1.cell 8
  have q0 : W8.cell? ⟨w.heap.size + 2, 8, none⟩ = some (.int .i64 0) := H8.out.2.2.1.cell 8
  have f0 := H8.out.2.2.1.frozen 8
  have hO : Cel (W8.setCell ⟨w.heap.size + 2, 8, none⟩ (.int .i64 m.sign)) (w.heap.size + 2) 41 #[.int .i64 m.kind, .int .i64 m.frm, .int .i64 m.to, .int .i64 m.port, .int .i64 m.key, .int .i64 m.token, .int .i64 m.nonce, .int .i64 m.give, .int .i64 m.sign, .int .i64 0, .int .i64 0, .int .i64 0, .int .i64 0, .int .i64 0, .int .i64 0, .int .i64 0, .bool false, .int .i64 0, .string ⟨#[]⟩] := ((H8.out.2.2.1).set 8 (.int .i64 m.sign))
  have HN := Lib.hid (And.intro ((H8.out.1).other ⟨w.heap.size + 2, 8, none⟩ (.int .i64 m.sign) (by simp)) (And.intro ((H8.out.2.1).other ⟨w.heap.size + 2, 8, none⟩ (.int .i64 m.sign) (by simp)) (And.intro hO ((H8.out.2.2.2).setCell (p := ⟨w.heap.size + 2, 8, none⟩) (by simp) (.int .i64 m.sign)))))
  clear hO
  go_upto_region 11 with (fail)
  clear q0 f0 k0 H8
  generalize (W8.setCell ⟨w.heap.size + 2, 8, none⟩ (.int .i64 m.sign)) = W9 at *
  have H9 := HN
  clear HN
  have k0 : W9.cell? ⟨w.heap.size, 9, none⟩ = some (.int .i64 m.tag.kind) := H9.out.1.cell 9
  have k1 : W9.cell? ⟨w.heap.size, 10, none⟩ = some (.int .i64 m.tag.one) := H9.out.1.cell 10
  have k2 : W9.cell? ⟨w.heap.size, 11, none⟩ = some (.int .i64 m.tag.two) := H9.out.1.cell 11
  have k3 : W9.cell? ⟨w.heap.size, 12, none⟩ = some (.int .i64 m.tag.a) := H9.out.1.cell 12
  have k4 : W9.cell? ⟨w.heap.size, 13, none⟩ = some (.int .i64 m.tag.b) := H9.out.1.cell 13
  go_wp2_with (fail)
  with_reducible refine (c0 _).mono ?_
  rintro e W10 ⟨rfl, hb⟩
  have H10 := Lib.hid (And.intro (H9.out.1.kept hb) (And.intro (H9.out.2.1.kept hb) (And.intro (H9.out.2.2.1.kept hb) (Below.then_ H9.out.2.2.2 hb))))
  clear hb c0 H9 k0 k1 k2 k3 k4
  have q0 : W10.cell? ⟨w.heap.size + 2, 9, none⟩ = some (.int .i64 0) := H10.out.2.2.1.cell 9
  have f0 := H10.out.2.2.1.frozen 9
  have q1 : W10.cell? ⟨w.heap.size + 2, 10, none⟩ = some (.int .i64 0) := H10.out.2.2.1.cell 10
  have f1 := H10.out.2.2.1.frozen 10
  have q2 : W10.cell? ⟨w.heap.size + 2, 11, none⟩ = some (.int .i64 0) := H10.out.2.2.1.cell 11
  have f2 := H10.out.2.2.1.frozen 11
  have q3 : W10.cell? ⟨w.heap.size + 2, 12, none⟩ = some (.int .i64 0) := H10.out.2.2.1.cell 12
  have f3 := H10.out.2.2.1.frozen 12
  have q4 : W10.cell? ⟨w.heap.size + 2, 13, none⟩ = some (.int .i64 0) := H10.out.2.2.1.cell 13
  have f4 := H10.out.2.2.1.frozen 13
  have hO : Cel (((((W10.setCell ⟨w.heap.size + 2, 9, none⟩ (.int .i64 m.tag.kind)).setCell ⟨w.heap.size + 2, 10, none⟩ (.int .i64 m.tag.one)).setCell ⟨w.heap.size + 2, 11, none⟩ (.int .i64 m.tag.two)).setCell ⟨w.heap.size + 2, 12, none⟩ (.int .i64 m.tag.a)).setCell ⟨w.heap.size + 2, 13, none⟩ (.int .i64 m.tag.b)) (w.heap.size + 2) 41 #[.int .i64 m.kind, .int .i64 m.frm, .int .i64 m.to, .int .i64 m.port, .int .i64 m.key, .int .i64 m.token, .int .i64 m.nonce, .int .i64 m.give, .int .i64 m.sign, .int .i64 m.tag.kind, .int .i64 m.tag.one, .int .i64 m.tag.two, .int .i64 m.tag.a, .int .i64 m.tag.b, .int .i64 0, .int .i64 0, .bool false, .int .i64 0, .string ⟨#[]⟩] := ((((((((((H10.out.2.2.1).set 9 (.int .i64 m.tag.kind))).set 10 (.int .i64 m.tag.one))).set 11 (.int .i64 m.tag.two))).set 12 (.int .i64 m.tag.a))).set 13 (.int .i64 m.tag.b))
  have HN := Lib.hid (And.intro ((((((((((H10.out.1).other ⟨w.heap.size + 2, 9, none⟩ (.int .i64 m.tag.kind) (by simp))).other ⟨w.heap.size + 2, 10, none⟩ (.int .i64 m.tag.one) (by simp))).other ⟨w.heap.size + 2, 11, none⟩ (.int .i64 m.tag.two) (by simp))).other ⟨w.heap.size + 2, 12, none⟩ (.int .i64 m.tag.a) (by simp))).other ⟨w.heap.size + 2, 13, none⟩ (.int .i64 m.tag.b) (by simp)) (And.intro ((((((((((H10.out.2.1).other ⟨w.heap.size + 2, 9, none⟩ (.int .i64 m.tag.kind) (by simp))).other ⟨w.heap.size + 2, 10, none⟩ (.int .i64 m.tag.one) (by simp))).other ⟨w.heap.size + 2, 11, none⟩ (.int .i64 m.tag.two) (by simp))).other ⟨w.heap.size + 2, 12, none⟩ (.int .i64 m.tag.a) (by simp))).other ⟨w.heap.size + 2, 13, none⟩ (.int .i64 m.tag.b) (by simp)) (And.intro hO ((((((((((H10.out.2.2.2).setCell (p := ⟨w.heap.size + 2, 9, none⟩) (by simp) (.int .i64 m.tag.kind))).setCell (p := ⟨w.heap.size + 2, 10, none⟩) (by simp) (.int .i64 m.tag.one))).setCell (p := ⟨w.heap.size + 2, 11, none⟩) (by simp) (.int .i64 m.tag.two))).setCell (p := ⟨w.heap.size + 2, 12, none⟩) (by simp) (.int .i64 m.tag.a))).setCell (p := ⟨w.heap.size + 2, 13, none⟩) (by simp) (.int .i64 m.tag.b)))))
  clear hO
  go_upto_region 12 with (fail)
  clear q0 f0 q1 f1 q2 f2 q3 f3 q4 f4 H10
  generalize (((((W10.setCell ⟨w.heap.size + 2, 9, none⟩ (.int .i64 m.tag.kind)).setCell ⟨w.heap.size + 2, 10, none⟩ (.int .i64 m.tag.one)).setCell ⟨w.heap.size + 2, 11, none⟩ (.int .i64 m.tag.two)).setCell ⟨w.heap.size + 2, 12, none⟩ (.int .i64 m.tag.a)).setCell ⟨w.heap.size + 2, 13, none⟩ (.int .i64 m.tag.b)) = W11 at *
  have H11 := HN
  clear HN
  have k0 : W11.cell? ⟨w.heap.size, 14, none⟩ = some (.int .i64 m.id) := H11.out.1.cell 14
  have q0 : W11.cell? ⟨w.heap.size + 2, 14, none⟩ = some (.int .i64 0) := H11.out.2.2.1.cell 14
  have f0 := H11.out.2.2.1.frozen 14
  have hO : Cel (W11.setCell ⟨w.heap.size + 2, 14, none⟩ (.int .i64 m.id)) (w.heap.size + 2) 41 #[.int .i64 m.kind, .int .i64 m.frm, .int .i64 m.to, .int .i64 m.port, .int .i64 m.key, .int .i64 m.token, .int .i64 m.nonce, .int .i64 m.give, .int .i64 m.sign, .int .i64 m.tag.kind, .int .i64 m.tag.one, .int .i64 m.tag.two, .int .i64 m.tag.a, .int .i64 m.tag.b, .int .i64 m.id, .int .i64 0, .bool false, .int .i64 0, .string ⟨#[]⟩] := ((H11.out.2.2.1).set 14 (.int .i64 m.id))
  have HN := Lib.hid (And.intro ((H11.out.1).other ⟨w.heap.size + 2, 14, none⟩ (.int .i64 m.id) (by simp)) (And.intro ((H11.out.2.1).other ⟨w.heap.size + 2, 14, none⟩ (.int .i64 m.id) (by simp)) (And.intro hO ((H11.out.2.2.2).setCell (p := ⟨w.heap.size + 2, 14, none⟩) (by simp) (.int .i64 m.id)))))
  clear hO
  go_upto_region 13 with (fail)
  clear q0 f0 k0 H11
  generalize (W11.setCell ⟨w.heap.size + 2, 14, none⟩ (.int .i64 m.id)) = W12 at *
  have H12 := HN
  clear HN
  have k0 : W12.cell? ⟨w.heap.size, 15, none⟩ = some (.int .i64 m.addr) := H12.out.1.cell 15
  have q0 : W12.cell? ⟨w.heap.size + 2, 15, none⟩ = some (.int .i64 0) := H12.out.2.2.1.cell 15
  have f0 := H12.out.2.2.1.frozen 15
  have hO : Cel (W12.setCell ⟨w.heap.size + 2, 15, none⟩ (.int .i64 m.addr)) (w.heap.size + 2) 41 #[.int .i64 m.kind, .int .i64 m.frm, .int .i64 m.to, .int .i64 m.port, .int .i64 m.key, .int .i64 m.token, .int .i64 m.nonce, .int .i64 m.give, .int .i64 m.sign, .int .i64 m.tag.kind, .int .i64 m.tag.one, .int .i64 m.tag.two, .int .i64 m.tag.a, .int .i64 m.tag.b, .int .i64 m.id, .int .i64 m.addr, .bool false, .int .i64 0, .string ⟨#[]⟩] := ((H12.out.2.2.1).set 15 (.int .i64 m.addr))
  have HN := Lib.hid (And.intro ((H12.out.1).other ⟨w.heap.size + 2, 15, none⟩ (.int .i64 m.addr) (by simp)) (And.intro ((H12.out.2.1).other ⟨w.heap.size + 2, 15, none⟩ (.int .i64 m.addr) (by simp)) (And.intro hO ((H12.out.2.2.2).setCell (p := ⟨w.heap.size + 2, 15, none⟩) (by simp) (.int .i64 m.addr)))))
  clear hO
  go_upto_region 14 with (fail)
  clear q0 f0 k0 H12
  generalize (W12.setCell ⟨w.heap.size + 2, 15, none⟩ (.int .i64 m.addr)) = W13 at *
  have H13 := HN
  clear HN
  have k0 : W13.cell? ⟨w.heap.size, 16, none⟩ = some (.bool m.spare) := H13.out.1.cell 16
  have q0 : W13.cell? ⟨w.heap.size + 2, 16, none⟩ = some (.bool false) := H13.out.2.2.1.cell 16
  have f0 := H13.out.2.2.1.frozen 16
  have hO : Cel (W13.setCell ⟨w.heap.size + 2, 16, none⟩ (.bool m.spare)) (w.heap.size + 2) 41 #[.int .i64 m.kind, .int .i64 m.frm, .int .i64 m.to, .int .i64 m.port, .int .i64 m.key, .int .i64 m.token, .int .i64 m.nonce, .int .i64 m.give, .int .i64 m.sign, .int .i64 m.tag.kind, .int .i64 m.tag.one, .int .i64 m.tag.two, .int .i64 m.tag.a, .int .i64 m.tag.b, .int .i64 m.id, .int .i64 m.addr, .bool m.spare, .int .i64 0, .string ⟨#[]⟩] := ((H13.out.2.2.1).set 16 (.bool m.spare))
  have HN := Lib.hid (And.intro ((H13.out.1).other ⟨w.heap.size + 2, 16, none⟩ (.bool m.spare) (by simp)) (And.intro ((H13.out.2.1).other ⟨w.heap.size + 2, 16, none⟩ (.bool m.spare) (by simp)) (And.intro hO ((H13.out.2.2.2).setCell (p := ⟨w.heap.size + 2, 16, none⟩) (by simp) (.bool m.spare)))))
  clear hO
  go_upto_region 15 with (fail)
  clear q0 f0 k0 H13
  generalize (W13.setCell ⟨w.heap.size + 2, 16, none⟩ (.bool m.spare)) = W14 at *
  have H14 := HN
  clear HN
  have k0 : W14.cell? ⟨w.heap.size, 17, none⟩ = some (.int .i64 m.pos) := H14.out.1.cell 17
  have q0 : W14.cell? ⟨w.heap.size + 2, 17, none⟩ = some (.int .i64 0) := H14.out.2.2.1.cell 17
  have f0 := H14.out.2.2.1.frozen 17
  have hO : Cel (W14.setCell ⟨w.heap.size + 2, 17, none⟩ (.int .i64 m.pos)) (w.heap.size + 2) 41 #[.int .i64 m.kind, .int .i64 m.frm, .int .i64 m.to, .int .i64 m.port, .int .i64 m.key, .int .i64 m.token, .int .i64 m.nonce, .int .i64 m.give, .int .i64 m.sign, .int .i64 m.tag.kind, .int .i64 m.tag.one, .int .i64 m.tag.two, .int .i64 m.tag.a, .int .i64 m.tag.b, .int .i64 m.id, .int .i64 m.addr, .bool m.spare, .int .i64 m.pos, .string ⟨#[]⟩] := ((H14.out.2.2.1).set 17 (.int .i64 m.pos))
  have HN := Lib.hid (And.intro ((H14.out.1).other ⟨w.heap.size + 2, 17, none⟩ (.int .i64 m.pos) (by simp)) (And.intro ((H14.out.2.1).other ⟨w.heap.size + 2, 17, none⟩ (.int .i64 m.pos) (by simp)) (And.intro hO ((H14.out.2.2.2).setCell (p := ⟨w.heap.size + 2, 17, none⟩) (by simp) (.int .i64 m.pos)))))
  clear hO
  go_upto_region 16 with (fail)
  clear q0 f0 k0 H14
  generalize (W14.setCell ⟨w.heap.size + 2, 17, none⟩ (.int .i64 m.pos)) = W15 at *
  have H15 := HN
  clear HN
  have k0 : W15.cell? ⟨w.heap.size, 18, none⟩ = some (.string m.text) := H15.out.1.cell 18
  have q0 : W15.cell? ⟨w.heap.size + 2, 18, none⟩ = some (.string ⟨#[]⟩) := H15.out.2.2.1.cell 18
  have f0 := H15.out.2.2.1.frozen 18
  have hO : Cel (W15.setCell ⟨w.heap.size + 2, 18, none⟩ (.string m.text)) (w.heap.size + 2) 41 #[.int .i64 m.kind, .int .i64 m.frm, .int .i64 m.to, .int .i64 m.port, .int .i64 m.key, .int .i64 m.token, .int .i64 m.nonce, .int .i64 m.give, .int .i64 m.sign, .int .i64 m.tag.kind, .int .i64 m.tag.one, .int .i64 m.tag.two, .int .i64 m.tag.a, .int .i64 m.tag.b, .int .i64 m.id, .int .i64 m.addr, .bool m.spare, .int .i64 m.pos, .string m.text] := ((H15.out.2.2.1).set 18 (.string m.text))
  have HN := Lib.hid (And.intro ((H15.out.1).other ⟨w.heap.size + 2, 18, none⟩ (.string m.text) (by simp)) (And.intro ((H15.out.2.1).other ⟨w.heap.size + 2, 18, none⟩ (.string m.text) (by simp)) (And.intro hO ((H15.out.2.2.2).setCell (p := ⟨w.heap.size + 2, 18, none⟩) (by simp) (.string m.text)))))
  clear hO
  go_upto_region 17 with (fail)
  clear q0 f0 k0 H15
  generalize (W15.setCell ⟨w.heap.size + 2, 18, none⟩ (.string m.text)) = W16 at *
  have H16 := HN
  clear HN
  have hL := lvC_eq m
  have hC3 : W16.heap[w.heap.size + 2]? = some (.cells (lvC m) 41 (0, 0)) := by rw [hL]; exact H16.out.2.2.1
  have hD4 : W16.heap[w.heap.size + 1]? = some (.cells #[.int .i64 0, .int .i64 0, .int .i64 0, .int .i64 0, .int .i64 0, .int .i64 0, .int .i64 0, .int .i64 0, .int .i64 0, .int .i64 0, .int .i64 0, .int .i64 0, .int .i64 0, .int .i64 0, .int .i64 0, .int .i64 0, .bool false, .int .i64 0, .string ⟨#[]⟩] 41 (0, 0)) := H16.out.2.1
  have one : (lvC m).all (·.oneCell') = true := by rw [hL]; simp [Value.oneCell']
  have hsz : (Try.prog.info? 41).map (·.size) = some (lvC m).size := by rw [hL]; exact sizeLv m
  have hn9 : (lvC m).size = 19 := by rw [hL]; rfl
  have hst : (storeCells ⟨w.heap.size + 1, 0, none⟩ (lvC m).toList 0).run Try.prog W16 = .ok () (W16.setRow (w.heap.size + 1) (lvC m)) := by
    have := run_storeCells_at Try.prog (w.heap.size + 1) 0 41 (lvC m).toList 0 _ W16 hD4 (by rw [Array.length_toList, hn9]; exact Nat.le_refl _) (fun v hv => Array.all_eq_true_iff_forall_mem.1 one v (by simpa using hv))
    rw [this]
    congr 2
    rw [Nat.zero_add, List.take_zero, List.nil_append, List.drop_of_length_le (by rw [Array.length_toList, Array.length_toList, hn9]; exact Nat.le_refl _), List.append_nil, Array.toArray_toList]
  have HF := Lib.hid (And.intro (H16.out.2.1.row (lvC m)) (And.intro (row_belowlv H16.out.2.2.2 (show w.heap.size ≤ w.heap.size + 1 by omega) (lvC m)) hL))
  clear H16 hL
  go_wp2_with (first | (with_reducible refine wpList_load_row rfl 41 _ rfl _ rfl 41 _ (0, 0) _ hC3 Try.underlying41 rfl hsz ?_))
  refine bodyPost_ret (Cel.result HF.out.1 rfl _ rfl Try.underlying41 rfl hsz) rfl ⟨by rw [HF.out.2.2], HF.out.2.1⟩

set_option maxRecDepth 100000 in
set_option maxHeartbeats 2000000 in
theorem eq_letter_x (m : Lv) (w : World) :
    Calls Try.prog 41 #[.agg #[.int .i64 m.kind, .int .i64 m.frm, .int .i64 m.to, .int .i64 m.port, .int .i64 m.key, .int .i64 m.token, .int .i64 m.nonce, .int .i64 m.give, .int .i64 m.sign, .int .i64 m.tag.kind, .int .i64 m.tag.one, .int .i64 m.tag.two, .int .i64 m.tag.a, .int .i64 m.tag.b, .int .i64 m.id, .int .i64 m.addr, .bool m.spare, .int .i64 m.pos, .string m.text], .agg #[.int .i64 m.kind, .int .i64 m.frm, .int .i64 m.to, .int .i64 m.port, .int .i64 m.key, .int .i64 m.token, .int .i64 m.nonce, .int .i64 m.give, .int .i64 m.sign, .int .i64 m.tag.kind, .int .i64 m.tag.one, .int .i64 m.tag.two, .int .i64 m.tag.a, .int .i64 m.tag.b, .int .i64 m.id, .int .i64 m.addr, .bool m.spare, .int .i64 m.pos, .string m.text]] w fun e w' => e = .returned (.bool true) ∧ w' = ((((w.alloc (.cells #[.int .i64 m.kind, .int .i64 m.frm, .int .i64 m.to, .int .i64 m.port, .int .i64 m.key, .int .i64 m.token, .int .i64 m.nonce, .int .i64 m.give, .int .i64 m.sign, .int .i64 m.tag.kind, .int .i64 m.tag.one, .int .i64 m.tag.two, .int .i64 m.tag.a, .int .i64 m.tag.b, .int .i64 m.id, .int .i64 m.addr, .bool m.spare, .int .i64 m.pos, .string m.text] 41)).alloc (.cells #[.int .i64 m.kind, .int .i64 m.frm, .int .i64 m.to, .int .i64 m.port, .int .i64 m.key, .int .i64 m.token, .int .i64 m.nonce, .int .i64 m.give, .int .i64 m.sign, .int .i64 m.tag.kind, .int .i64 m.tag.one, .int .i64 m.tag.two, .int .i64 m.tag.a, .int .i64 m.tag.b, .int .i64 m.id, .int .i64 m.addr, .bool m.spare, .int .i64 m.pos, .string m.text] 41)).alloc (.cells #[.int .i64 m.tag.kind, .int .i64 m.tag.one, .int .i64 m.tag.two, .int .i64 m.tag.a, .int .i64 m.tag.b] 39)).alloc (.cells #[.int .i64 m.tag.kind, .int .i64 m.tag.one, .int .i64 m.tag.two, .int .i64 m.tag.a, .int .i64 m.tag.b] 39)) := by
  have c0 := fun W => eq_tag_x m.tag W
  obtain ⟨wf, hwf⟩ : ∃ wf, wf = ((((w.alloc (.cells #[.int .i64 m.kind, .int .i64 m.frm, .int .i64 m.to, .int .i64 m.port, .int .i64 m.key, .int .i64 m.token, .int .i64 m.nonce, .int .i64 m.give, .int .i64 m.sign, .int .i64 m.tag.kind, .int .i64 m.tag.one, .int .i64 m.tag.two, .int .i64 m.tag.a, .int .i64 m.tag.b, .int .i64 m.id, .int .i64 m.addr, .bool m.spare, .int .i64 m.pos, .string m.text] 41)).alloc (.cells #[.int .i64 m.kind, .int .i64 m.frm, .int .i64 m.to, .int .i64 m.port, .int .i64 m.key, .int .i64 m.token, .int .i64 m.nonce, .int .i64 m.give, .int .i64 m.sign, .int .i64 m.tag.kind, .int .i64 m.tag.one, .int .i64 m.tag.two, .int .i64 m.tag.a, .int .i64 m.tag.b, .int .i64 m.id, .int .i64 m.addr, .bool m.spare, .int .i64 m.pos, .string m.text] 41)).alloc (.cells #[.int .i64 m.tag.kind, .int .i64 m.tag.one, .int .i64 m.tag.two, .int .i64 m.tag.a, .int .i64 m.tag.b] 39)).alloc (.cells #[.int .i64 m.tag.kind, .int .i64 m.tag.one, .int .i64 m.tag.two, .int .i64 m.tag.a, .int .i64 m.tag.b] 39)) := ⟨_, rfl⟩
  rw [← hwf]
  have HW := Lib.hid hwf
  clear hwf
  go_enter Try.func41, Try.ntmps41
  go_wp2_with (fail)
  with_reducible refine (c0 _).mono ?_
  rintro e w1 ⟨rfl, rfl⟩
  go_wp2_with (fail)
  go_ret
  exact ⟨rfl, HW.out.symm⟩
theorem eq_letter (m : Lv) (w : World) :
    Calls Try.prog 41 #[.agg #[.int .i64 m.kind, .int .i64 m.frm, .int .i64 m.to, .int .i64 m.port, .int .i64 m.key, .int .i64 m.token, .int .i64 m.nonce, .int .i64 m.give, .int .i64 m.sign, .int .i64 m.tag.kind, .int .i64 m.tag.one, .int .i64 m.tag.two, .int .i64 m.tag.a, .int .i64 m.tag.b, .int .i64 m.id, .int .i64 m.addr, .bool m.spare, .int .i64 m.pos, .string m.text], .agg #[.int .i64 m.kind, .int .i64 m.frm, .int .i64 m.to, .int .i64 m.port, .int .i64 m.key, .int .i64 m.token, .int .i64 m.nonce, .int .i64 m.give, .int .i64 m.sign, .int .i64 m.tag.kind, .int .i64 m.tag.one, .int .i64 m.tag.two, .int .i64 m.tag.a, .int .i64 m.tag.b, .int .i64 m.id, .int .i64 m.addr, .bool m.spare, .int .i64 m.pos, .string m.text]] w fun e w' => e = .returned (.bool true) ∧ Below w.heap.size w w' :=
  (eq_letter_x m w).mono fun _ _ h => ⟨h.1, by rw [h.2]; exact (((((Below.refl _ _).alloc (Nat.le_refl _) _).alloc (by simp) _).alloc (by simp; omega) _).alloc (by simp; omega) _)⟩
end Go.Proofs.Ytoeflkmhofkiaaa

