import Derived.Test.YtkpajakangaekabRows
import Derived.WalkKit
import Derived.Lib.Hide
namespace Go.Proofs.Ytkpajakangaekab
open Go.RowKit

/-- A list of operations parted in two: what holds of frame and world between them. -/
def CutQ (R : Act → World → Prop) (Q : Exit → Act → World → Prop) : Exit → Act → World → Prop
  | .normal, a, w => R a w
  | .exit i, a, w => Q (.exit i) a w
  | .goto l, a, w => Q (.goto l) a w
  | .ret, a, w => Q .ret a w
  | .panic c, a, w => Q (.panic c) a w
  | .outgrown, a, w => Q .outgrown a w

theorem upon_cut {P : Program} {o : Oper} {a : Act} {R : Act → World → Prop} {Q : Exit → Act → World → Prop} {n1 n2 : Act → World → Prop} (hn : ∀ a w, n1 a w → n2 a w) :
    ∀ r : Result Next, o.upon P a n1 (CutQ R Q) r → o.upon P a n2 Q r := by
  intro r h
  match r, h with
  | .ok (.value v) w', h => exact hn _ _ h
  | .ok .skip w', h => exact hn _ _ h
  | .ok (.defer d) w', h => exact hn _ _ h
  | .ok (.enter f args) w', h =>
    refine Calls.mono (show Calls P f args w' _ from h) fun e w'' he => ?_
    match e, he with
    | .returned v, he => exact hn _ _ he
    | .panicked chain, he => exact he
    | .outgrown, he => exact he
  | .ok (.row row args) w', h => exact Rows.mono (show Rows P row args w' _ from h) fun v w'' he => hn _ _ he
  | .halt (.panic v) w', h => exact h

theorem wpList_cut {P : Program} {ops : Array Oper} {Q : Exit → Act → World → Prop} (R : Act → World → Prop) (l1 l2 : List Oper) (h2 : ∀ a w, R a w → wpList P ops Q l2 a w) :
    ∀ (a : Act) (w : World), wpList P ops (CutQ R Q) l1 a w → wpList P ops Q (l1 ++ l2) a w := by
  induction l1 with
  | nil => exact fun a w h => h2 a w h
  | cons o l1 ih =>
    intro a w h
    show wpList P ops Q (o :: (l1 ++ l2)) a w
    unfold wpList at h ⊢
    split
    · rename_i hw
      rw [if_pos hw] at h
      rcases h with h | ⟨h, hl⟩
      · exact .inl (upon_cut ih _ h)
      · exact .inr ⟨h, hl⟩
    · rename_i hw
      rw [if_neg hw] at h
      exact ih _ _ h

theorem wpList_cutAt {P : Program} {ops : Array Oper} {Q : Exit → Act → World → Prop} (n : Nat) (R : Act → World → Prop) {l : List Oper} {a : Act} {w : World}
    (h1 : wpList P ops (CutQ R Q) (l.take n) a w) (h2 : ∀ a w, R a w → wpList P ops Q (l.drop n) a w) : wpList P ops Q l a w := by
  have := wpList_cut R (l.take n) (l.drop n) h2 a w h1
  rwa [List.take_append_drop] at this

theorem at_frame {W : World} {F : (Nat → Value) → Bool → Act} {B : Bool} (a : Act) (A : Bool) (h : a = F (fun i => a.tmps.getD i undef) A) (hA : A = B) : W = W ∧ ∃ z A, a = F z A ∧ A = B := ⟨rfl, _, A, h, hA⟩

/-- .. the exits behind one name. -/
theorem wpList_parted {P : Program} {ops : Array Oper} {Q : Exit → Act → World → Prop} (n : Nat) (R : Act → World → Prop) {l : List Oper} {a : Act} {w : World}
    (h1 : ∀ Q2 : Exit → Act → World → Prop, Hid (∀ a w, R a w → Q2 .normal a w) → wpList P ops Q2 (l.take n) a w) (h2 : ∀ a w, R a w → wpList P ops Q (l.drop n) a w) : wpList P ops Q l a w :=
  wpList_cutAt n R (h1 _ (Lib.hid fun _ _ h => h)) h2
end Go.Proofs.Ytkpajakangaekab
