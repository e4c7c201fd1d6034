import Init
namespace Go.Proofs.Ytdajfnonehianaa

/-! Pieces of a stream (chapter 9), on lists. -/
/-- A piece. -/
structure Pc where
  pos : Int
  text : ByteArray

/-- A stream that comes in. -/
structure Ps where
  read : Int
  ready : ByteArray
  list : List Pc

def Pc.zero : Pc := ⟨0, ⟨#[]⟩⟩
/-- The position behind a piece. -/
def Pc.fin (p : Pc) : Int := p.pos + (p.text.size : Int)
/-- The byte that it has at a position. -/
def Pc.byte (p : Pc) (i : Int) : Option UInt8 := if p.pos ≤ i then p.text.data.toList[(i - p.pos).toNat]? else none

theorem bsize (t : ByteArray) : t.data.toList.length = t.size := by rw [Array.length_toList]; rfl
theorem byte_some {p : Pc} {i : Int} : (∃ b, p.byte i = some b) ↔ p.pos ≤ i ∧ i < p.fin := by
  unfold Pc.byte Pc.fin
  constructor
  · rintro ⟨b, h⟩
    split at h
    · have := (List.getElem?_eq_some_iff.1 h).1
      rw [bsize] at this
      omega
    · cases h
  · rintro ⟨h1, h2⟩
    rw [if_pos h1]
    exact ⟨_, List.getElem?_eq_getElem (by rw [bsize]; omega)⟩
theorem byte_none {p : Pc} {i : Int} (h : ¬ (p.pos ≤ i ∧ i < p.fin)) : p.byte i = none := by
  cases hb : p.byte i with
  | none => rfl
  | some b => exact absurd (byte_some.1 ⟨b, hb⟩) h
theorem pc_ext {p q : Pc} (h1 : p.pos = q.pos) (h2 : p.fin = q.fin) (h3 : ∀ i, p.pos ≤ i → i < p.fin → p.byte i = q.byte i) : p = q := by
  obtain ⟨a, t⟩ := p
  obtain ⟨b, u⟩ := q
  simp only at h1
  subst h1
  unfold Pc.fin at h2 h3
  simp only at h2 h3
  have hs : t.size = u.size := by omega
  congr 1
  apply ByteArray.ext
  apply Array.toList_inj.1
  apply List.ext_getElem?
  intro j
  by_cases hj : j < t.size
  · have := h3 (a + (j : Int)) (by omega) (by omega)
    unfold Pc.byte at this
    rw [if_pos (by simp only; omega), if_pos (by simp only; omega)] at this
    simp only at this
    rw [show (a + (j : Int) - a).toNat = j by omega] at this
    exact this
  · rw [List.getElem?_eq_none (by rw [bsize]; omega), List.getElem?_eq_none (by rw [bsize]; omega)]

/-- One piece of two that overlap or touch; the first one's bytes stay. -/
def joinP (a b : Pc) : Pc :=
  if b.pos < a.pos then ⟨b.pos, b.text.extract 0 (a.pos - b.pos).toNat ++ a.text ++ b.text.extract ((a.pos - b.pos).toNat + a.text.size) b.text.size⟩
  else if b.fin ≤ a.fin then a
  else ⟨a.pos, a.text ++ b.text.extract (a.fin - b.pos).toNat b.text.size⟩

theorem xlist (s : ByteArray) (a b : Nat) : (s.extract a b).data.toList = (s.data.toList.drop a).take (b - a) := by
  simp only [ByteArray.data_extract, Array.toList_extract, List.extract_eq_take_drop]

def meets (a b : Pc) : Prop := a.pos ≤ b.fin ∧ b.pos ≤ a.fin

theorem join_pos (a b : Pc) : (joinP a b).pos = min b.pos a.pos := by
  unfold joinP
  split
  · simp only; omega
  · split
    · omega
    · simp only; omega
theorem join_fin (a b : Pc) (h : meets a b) : (joinP a b).fin = max a.fin b.fin := by
  unfold meets at h
  unfold joinP
  split
  · unfold Pc.fin at *
    simp only [ByteArray.size_append, ByteArray.size_extract]
    omega
  · split
    · omega
    · unfold Pc.fin at *
      simp only [ByteArray.size_append, ByteArray.size_extract]
      omega
theorem join_byte (a b : Pc) (h : meets a b) (i : Int) : (joinP a b).byte i = (a.byte i).or (b.byte i) := by
  unfold meets at h
  by_cases hin : (joinP a b).pos ≤ i ∧ i < (joinP a b).fin
  · rw [join_pos, join_fin a b h] at hin
    by_cases ha : a.pos ≤ i ∧ i < a.fin
    · obtain ⟨v, hv⟩ := byte_some.2 ha
      rw [hv, Option.some_or, ← hv]
      unfold joinP
      unfold Pc.fin at *
      split
      · unfold Pc.byte
        simp only
        rw [if_pos (by omega), if_pos ha.1, ByteArray.data_append, ByteArray.data_append, Array.toList_append, Array.toList_append, List.append_assoc]
        have hx : (b.text.extract 0 (a.pos - b.pos).toNat).data.toList.length = (a.pos - b.pos).toNat := by rw [bsize, ByteArray.size_extract]; omega
        rw [List.getElem?_append_right (by rw [hx]; omega), hx, List.getElem?_append_left (by rw [bsize]; omega)]
        congr 1
        omega
      · split
        · rfl
        · unfold Pc.byte
          simp only
          rw [if_pos ha.1, if_pos ha.1, ByteArray.data_append, Array.toList_append, List.getElem?_append_left (by rw [bsize]; omega)]
    · have hna : a.byte i = none := byte_none ha
      rw [hna, Option.none_or]
      unfold joinP
      unfold Pc.fin at *
      split
      · unfold Pc.byte
        simp only
        rw [if_pos (by omega), if_pos (by omega), ByteArray.data_append, ByteArray.data_append, Array.toList_append, Array.toList_append, List.append_assoc]
        have hx : (b.text.extract 0 (a.pos - b.pos).toNat).data.toList.length = (a.pos - b.pos).toNat := by rw [bsize, ByteArray.size_extract]; omega
        by_cases hl : i < a.pos
        · rw [List.getElem?_append_left (by rw [hx]; omega), xlist, List.drop_zero, List.getElem?_take, if_pos (by omega)]
        · rw [List.getElem?_append_right (by rw [hx]; omega), hx, List.getElem?_append_right (by rw [bsize]; omega), bsize, xlist, List.getElem?_take, if_pos (by omega), List.getElem?_drop]
          congr 1
          omega
      · split
        · omega
        · unfold Pc.byte
          simp only
          rw [if_pos (by omega), if_pos (by omega), ByteArray.data_append, Array.toList_append, List.getElem?_append_right (by rw [bsize]; omega), bsize, xlist, List.getElem?_take, if_pos (by omega), List.getElem?_drop]
          congr 1
          omega
  · rw [byte_none hin]
    rw [join_pos, join_fin a b h] at hin
    rw [byte_none (by omega), byte_none (by omega)]
    rfl

/-- Bytes laid over others. -/
def layB (buf : List UInt8) (off : Nat) (t : List UInt8) : List UInt8 := buf.take off ++ t ++ buf.drop (off + t.length)
theorem layB_length (buf : List UInt8) (off : Nat) (t : List UInt8) (h : off + t.length ≤ buf.length) : (layB buf off t).length = buf.length := by
  simp only [layB, List.length_append, List.length_take, List.length_drop]; omega
theorem layB_get (buf : List UInt8) (off : Nat) (t : List UInt8) (h : off + t.length ≤ buf.length) (j : Nat) : (layB buf off t)[j]? = if off ≤ j ∧ j < off + t.length then t[j - off]? else buf[j]? := by
  unfold layB
  simp only [List.getElem?_append, List.getElem?_take, List.getElem?_drop, List.length_append, List.length_take]
  have e : min off buf.length = off := by omega
  rw [e]
  by_cases h1 : j < off
  · simp [h1, show j < off + t.length by omega, show ¬ off ≤ j by omega]
  · by_cases h2 : j < off + t.length
    · simp [h1, h2, show off ≤ j by omega]
    · simp [h2, show off + t.length + (j - (off + t.length)) = j by omega]

/-- The buffer in which one piece of many is made. -/
def laidP (start : Int) (buf : List UInt8) : List Pc → List UInt8
  | [] => buf
  | y :: r => laidP start (layB buf (y.pos - start).toNat y.text.data.toList) r
def joinAll (x : Pc) : List Pc → Pc
  | [] => x
  | y :: r => joinAll (joinP y x) r

theorem joinAll_lim (x0 : Pc) (old : List Pc) : ∀ (x : Pc), x.pos ≤ x0.pos → x0.fin ≤ x.fin → (∀ y ∈ old, meets y x0) →
    (joinAll x old).pos ≤ x.pos ∧ x.fin ≤ (joinAll x old).fin ∧ ∀ y ∈ old, (joinAll x old).pos ≤ y.pos ∧ y.fin ≤ (joinAll x old).fin := by
  induction old with
  | nil => intro x _ _ _; exact ⟨Int.le_refl _, Int.le_refl _, fun y hy => by cases hy⟩
  | cons y r ih =>
    intro x h1 h2 hm
    have hy := hm y (by simp)
    have hyx : meets y x := by unfold meets at *; omega
    have hp := join_pos y x
    have hf := join_fin y x hyx
    obtain ⟨k1, k2, k3⟩ := ih (joinP y x) (by omega) (by omega) (fun z hz => hm z (by simp [hz]))
    unfold joinAll
    refine ⟨by omega, by omega, fun z hz => ?_⟩
    rcases List.mem_cons.1 hz with rfl | hz
    · omega
    · exact k3 z hz

/-- What lies in the buffer is what the pieces together have. -/
theorem laid_all (x0 : Pc) (start : Int) (len : Nat) (old : List Pc) : ∀ (x : Pc) (buf : List UInt8), x.pos ≤ x0.pos → x0.fin ≤ x.fin → (∀ y ∈ old, meets y x0) →
    buf.length = len → start ≤ x.pos → x.fin ≤ start + len → (∀ y ∈ old, start ≤ y.pos ∧ y.fin ≤ start + len) → (∀ i b, x.byte i = some b → buf[(i - start).toNat]? = some b) →
    (laidP start buf old).length = len ∧ ∀ i b, (joinAll x old).byte i = some b → (laidP start buf old)[(i - start).toNat]? = some b := by
  induction old with
  | nil => intro x buf _ _ _ hl _ _ _ hb; exact ⟨hl, hb⟩
  | cons y r ih =>
    intro x buf h1 h2 hm hl hs1 hs2 hs3 hb
    have hy := hm y (by simp)
    have hyx : meets y x := by unfold meets at *; omega
    have hp := join_pos y x
    have hf := join_fin y x hyx
    have hy3 := hs3 y (by simp)
    have hfit : (y.pos - start).toNat + y.text.data.toList.length ≤ buf.length := by rw [bsize]; unfold Pc.fin at hy3; omega
    unfold laidP joinAll
    refine ih (joinP y x) _ (by omega) (by omega) (fun z hz => hm z (by simp [hz])) (by rw [layB_length _ _ _ hfit, hl]) (by omega) (by omega) (fun z hz => hs3 z (by simp [hz])) ?_
    intro i b hi
    rw [join_byte y x hyx] at hi
    rw [layB_get _ _ _ hfit, bsize]
    by_cases hin : y.pos ≤ i ∧ i < y.fin
    · obtain ⟨v, hv⟩ := byte_some.2 hin
      rw [hv, Option.some_or] at hi
      injection hi with hi
      subst hi
      rw [if_pos (by unfold Pc.fin at hin; omega)]
      unfold Pc.byte at hv
      rw [if_pos hin.1] at hv
      rw [← hv]
      congr 1
      omega
    · rw [byte_none hin, Option.none_or] at hi
      have hxr := byte_some.1 ⟨b, hi⟩
      rw [if_neg (by unfold Pc.fin at hin; omega)]
      exact hb i b hi

theorem fin_of_bytes (p : Int) (l : List UInt8) : (Pc.mk p ⟨l.toArray⟩).fin = p + (l.length : Int) := by
  show p + (((ByteArray.mk l.toArray).size : Nat) : Int) = _
  rw [show (ByteArray.mk l.toArray).size = l.length from by show l.toArray.size = _; simp]

/-- One piece of many, made in a buffer, is what joining them one by one comes to. -/
theorem merged_all (x : Pc) (old : List Pc) (start fin : Int) (hm : ∀ y ∈ old, meets y x) (h1 : (joinAll x old).pos = start) (h2 : (joinAll x old).fin = fin) :
    (⟨start, ⟨(laidP start (List.replicate (fin - start).toNat 0) (x :: old)).toArray⟩⟩ : Pc) = joinAll x old := by
  obtain ⟨k1, k2, k3⟩ := joinAll_lim x old x (Int.le_refl _) (Int.le_refl _) hm
  rw [h1, h2] at k3
  rw [h1] at k1
  rw [h2] at k2
  have hsx : x.pos ≤ x.fin := by unfold Pc.fin; omega
  have hfit : (x.pos - start).toNat + x.text.data.toList.length ≤ (List.replicate (fin - start).toNat (0 : UInt8)).length := by rw [bsize, List.length_replicate]; unfold Pc.fin at k2; omega
  obtain ⟨l1, l2⟩ := laid_all x start (fin - start).toNat old x (layB (List.replicate (fin - start).toNat 0) (x.pos - start).toNat x.text.data.toList) (Int.le_refl _) (Int.le_refl _) hm (by rw [layB_length _ _ _ hfit, List.length_replicate]) k1 (by omega) (fun y hy => ⟨(k3 y hy).1, by have := (k3 y hy).2; omega⟩) (by
    intro i b hi
    have hin := byte_some.1 ⟨b, hi⟩
    rw [layB_get _ _ _ hfit, bsize, if_pos (by unfold Pc.fin at hin; omega)]
    unfold Pc.byte at hi
    rw [if_pos hin.1] at hi
    rw [← hi]
    congr 1
    omega)
  refine pc_ext h1.symm ?_ ?_
  · rw [fin_of_bytes, show laidP start (List.replicate (fin - start).toNat 0) (x :: old) = laidP start (layB (List.replicate (fin - start).toNat 0) (x.pos - start).toNat x.text.data.toList) old from rfl, l1, h2]
    omega
  · intro i hi1 hi2
    rw [fin_of_bytes, show laidP start (List.replicate (fin - start).toNat 0) (x :: old) = laidP start (layB (List.replicate (fin - start).toNat 0) (x.pos - start).toNat x.text.data.toList) old from rfl, l1] at hi2
    simp only at hi1 hi2
    obtain ⟨b, hb⟩ := (byte_some (p := joinAll x old) (i := i)).2 ⟨by omega, by omega⟩
    rw [hb]
    unfold Pc.byte
    rw [if_pos hi1]
    exact l2 i b hb

/-! Valid streams. -/
def okP : Int → List Pc → Bool
  | _, [] => true
  | e, x :: r => if x.text.size ≠ 0 ∧ e < x.pos ∧ x.pos ≤ 2000000000 then okP x.fin r else false
def sumP : List Pc → Nat
  | [] => 0
  | x :: r => x.text.size + sumP r
def heldP (p : Ps) : Nat := p.ready.size + sumP p.list
def nextP (p : Ps) : Int := p.read + (p.ready.size : Int)
def piecesOk (p : Ps) : Bool := if 0 ≤ p.read ∧ p.read ≤ 1000000000 ∧ p.list.length ≤ 20 ∧ heldP p ≤ 200 then okP (nextP p) p.list else false

theorem okP_cons {e : Int} {x : Pc} {r : List Pc} : okP e (x :: r) = true ↔ (x.text.size ≠ 0 ∧ e < x.pos ∧ x.pos ≤ 2000000000) ∧ okP x.fin r = true := by
  conv => lhs; unfold okP
  by_cases h : x.text.size ≠ 0 ∧ e < x.pos ∧ x.pos ≤ 2000000000
  · rw [if_pos h]; exact ⟨fun k => And.intro h k, fun k => k.2⟩
  · rw [if_neg h]; exact ⟨fun k => absurd k Bool.false_ne_true, fun k => absurd k.1 h⟩
theorem okP_less {e f : Int} {l : List Pc} (h : okP e l = true) (hf : f ≤ e) : okP f l = true := by
  cases l with
  | nil => rfl
  | cons m r =>
    obtain ⟨⟨a, b, c⟩, d⟩ := okP_cons.1 h
    exact okP_cons.2 ⟨⟨a, by omega, c⟩, d⟩
theorem fin_lt {x : Pc} (h : x.text.size ≠ 0) : x.pos < x.fin := by unfold Pc.fin; omega
theorem okP_all {e : Int} {l : List Pc} (h : okP e l = true) : ∀ x ∈ l, x.text.size ≠ 0 ∧ e < x.pos ∧ x.pos ≤ 2000000000 := by
  induction l generalizing e with
  | nil => intro x hx; cases hx
  | cons y r ih =>
    obtain ⟨⟨a, b, c⟩, d⟩ := okP_cons.1 h
    intro x hx
    rcases List.mem_cons.1 hx with rfl | hx
    · exact ⟨a, b, c⟩
    · obtain ⟨k1, k2, k3⟩ := ih d x hx
      have := fin_lt a
      exact ⟨k1, by omega, k3⟩

/-- The model's round: those ahead, the new one with what it meets, those behind. -/
def putS (x : Pc) (laid : Bool) : List Pc → List Pc
  | [] => if laid then [] else [x]
  | y :: r => if y.fin < x.pos then y :: putS x laid r
    else if x.fin < y.pos then (if laid then [] else [x]) ++ y :: putS x true r
    else putS (joinP y x) laid r

/-- How many lie ahead of x, and how many of those behind meet it. -/
def aheadP (x : Pc) : List Pc → Nat
  | [] => 0
  | y :: r => if y.fin < x.pos then aheadP x r + 1 else 0
def meetP (f : Int) : List Pc → Nat
  | [] => 0
  | y :: r => if y.pos ≤ f then meetP f r + 1 else 0
theorem aheadP_le (x : Pc) (l : List Pc) : aheadP x l ≤ l.length := by
  induction l with
  | nil => exact Nat.le_refl _
  | cons y r ih => unfold aheadP; split <;> simp <;> omega
theorem meetP_le (f : Int) (l : List Pc) : meetP f l ≤ l.length := by
  induction l with
  | nil => exact Nat.le_refl _
  | cons y r ih => unfold meetP; split <;> simp <;> omega

theorem putS_laid (x : Pc) (e : Int) (l : List Pc) (h : okP e l = true) (hx : x.fin ≤ e) (hp : x.pos ≤ x.fin) : putS x true l = l := by
  induction l generalizing e with
  | nil => rfl
  | cons y r ih =>
    obtain ⟨⟨a, b, c⟩, d⟩ := okP_cons.1 h
    have hy := fin_lt a
    unfold putS
    rw [if_neg (by omega), if_pos (by omega), ih y.fin d (by omega)]
    simp

/-- What meets x and follows. -/
theorem putS_meet (x0 : Pc) (_hp : x0.pos ≤ x0.fin) (l : List Pc) : ∀ (x : Pc) (e : Int), okP e l = true → x.pos ≤ x0.pos → x.fin = max x0.fin e → x.pos ≤ e → putS x false l = joinAll x (l.take (meetP x0.fin l)) :: l.drop (meetP x0.fin l) := by
  induction l with
  | nil => intro x e _ _ _ _; simp [putS, joinAll, meetP]
  | cons y r ih =>
    intro x e h h1 h2 h3
    obtain ⟨⟨a, b, c⟩, d⟩ := okP_cons.1 h
    have hy := fin_lt a
    unfold putS meetP
    rw [if_neg (by omega)]
    by_cases hm : y.pos ≤ x0.fin
    · have hj : meets y x := by unfold meets; omega
      have jp := join_pos y x
      have jf := join_fin y x hj
      rw [if_neg (by omega), if_pos hm, ih (joinP y x) y.fin d (by omega) (by omega) (by omega)]
      simp only [List.take_succ_cons, List.drop_succ_cons]
      rfl
    · rw [if_pos (by omega), if_neg hm, putS_laid x y.fin r d (by omega) (by omega)]
      simp [joinAll]

/-- The program's way and the model's come to the same. -/
theorem putS_eq (x : Pc) (hp : x.pos < x.fin) (l : List Pc) (e : Int) (h : okP e l = true) :
    putS x false l = l.take (aheadP x l) ++ joinAll x ((l.drop (aheadP x l)).take (meetP x.fin (l.drop (aheadP x l)))) :: (l.drop (aheadP x l)).drop (meetP x.fin (l.drop (aheadP x l))) := by
  induction l generalizing e with
  | nil => simp [putS, joinAll, aheadP, meetP]
  | cons y r ih =>
    obtain ⟨⟨a, b, c⟩, d⟩ := okP_cons.1 h
    have hy := fin_lt a
    by_cases ha : y.fin < x.pos
    · unfold putS aheadP
      rw [if_pos ha, if_pos ha, ih y.fin d]
      simp only [List.take_succ_cons, List.drop_succ_cons, List.cons_append]
    · have hz : aheadP x (y :: r) = 0 := by unfold aheadP; rw [if_neg ha]
      rw [hz, List.take_zero, List.drop_zero, List.nil_append]
      unfold putS meetP
      rw [if_neg ha]
      by_cases hm : y.pos ≤ x.fin
      · have hj : meets y x := by unfold meets; omega
        have jp := join_pos y x
        have jf := join_fin y x hj
        rw [if_neg (by omega), if_pos hm, putS_meet x (by omega) r (joinP y x) y.fin d (by omega) (by omega) (by omega)]
        simp only [List.take_succ_cons, List.drop_succ_cons]
        rfl
      · rw [if_pos (by omega), if_neg hm, putS_laid x y.fin r d (by omega) (by omega)]
        simp [joinAll]

/-- Ahead of x lies what ends ahead of it; behind lies what does not. -/
theorem ahead_meets (x : Pc) (_hp : x.pos < x.fin) (l : List Pc) (e : Int) (h : okP e l = true) : ∀ y ∈ (l.drop (aheadP x l)).take (meetP x.fin (l.drop (aheadP x l))), meets y x := by
  induction l generalizing e with
  | nil => intro y hy; simp at hy
  | cons z r ih =>
    obtain ⟨⟨a, b, c⟩, d⟩ := okP_cons.1 h
    by_cases ha : z.fin < x.pos
    · have hz : aheadP x (z :: r) = aheadP x r + 1 := by conv => lhs; unfold aheadP; rw [if_pos ha]
      rw [hz, List.drop_succ_cons]
      exact ih z.fin d
    · have hz : aheadP x (z :: r) = 0 := by unfold aheadP; rw [if_neg ha]
      rw [hz, List.drop_zero]
      have go : ∀ (l : List Pc) (e : Int), okP e l = true → x.pos ≤ e → ∀ y ∈ l.take (meetP x.fin l), meets y x := by
        intro l
        induction l with
        | nil => intro e _ _ y hy; simp at hy
        | cons w q ihq =>
          intro e hok he y hy
          obtain ⟨⟨a', b', c'⟩, d'⟩ := okP_cons.1 hok
          have hw := fin_lt a'
          unfold meetP at hy
          by_cases hm : w.pos ≤ x.fin
          · rw [if_pos hm, List.take_succ_cons] at hy
            rcases List.mem_cons.1 hy with rfl | hy
            · unfold meets; omega
            · exact ihq w.fin d' (by omega) y hy
          · rw [if_neg hm] at hy
            simp at hy
      intro y hy
      unfold meetP at hy
      by_cases hm : z.pos ≤ x.fin
      · rw [if_pos hm, List.take_succ_cons] at hy
        rcases List.mem_cons.1 hy with rfl | hy
        · unfold meets; omega
        · exact go r z.fin d (by omega) y hy
      · rw [if_neg hm] at hy
        simp at hy

/-- The first that meets is the foremost, the last the hindmost. -/
theorem joinAll_pos (x0 : Pc) (old : List Pc) (hm : ∀ y ∈ old, meets y x0) (e : Int) (h : okP e old = true) : ∀ (x : Pc), x.pos ≤ x0.pos → x0.fin ≤ x.fin →
    (joinAll x old).pos = (match old with | [] => x.pos | y :: _ => min x.pos y.pos) ∧ (joinAll x old).fin = (match old.getLast? with | none => x.fin | some z => max x.fin z.fin) := by
  induction old generalizing e with
  | nil => intro x _ _; exact ⟨rfl, rfl⟩
  | cons y r ih =>
    intro x h1 h2
    obtain ⟨⟨a, b, c⟩, d⟩ := okP_cons.1 h
    have hy0 := hm y (by simp)
    have hyx : meets y x := by unfold meets at *; omega
    have jp := join_pos y x
    have jf := join_fin y x hyx
    have hyf := fin_lt a
    obtain ⟨k1, k2⟩ := ih (fun z hz => hm z (by simp [hz])) y.fin d (joinP y x) (by omega) (by omega)
    unfold joinAll
    rw [k1, k2]
    have hall := okP_all d
    constructor
    · cases r with
      | nil => simp only; omega
      | cons z q =>
        have := (hall z (by simp)).2.1
        simp only
        omega
    · cases r with
      | nil => simp only [List.getLast?_nil, List.getLast?_singleton]; omega
      | cons z q =>
        rw [List.getLast?_cons_cons]
        obtain ⟨w, hw⟩ : ∃ w, (z :: q).getLast? = some w := by
          rw [List.getLast?_eq_some_getLast (by simp)]
          exact ⟨_, rfl⟩
        rw [hw]
        simp only
        have hmem : w ∈ z :: q := List.mem_of_getLast? hw
        have h3 := hall w hmem
        have := fin_lt h3.1
        omega

theorem putS_ne (x : Pc) (l : List Pc) : putS x false l ≠ [] := by
  induction l generalizing x with
  | nil => simp [putS]
  | cons y r ih =>
    unfold putS
    split
    · simp
    · split
      · simp
      · exact ih _
theorem join_size (a b : Pc) (h : meets a b) : (joinP a b).text.size ≤ a.text.size + b.text.size := by
  have h1 := join_pos a b
  have h2 := join_fin a b h
  unfold meets at h
  unfold Pc.fin at *
  omega
theorem joinAll_size (x0 : Pc) (old : List Pc) : ∀ (x : Pc), x.pos ≤ x0.pos → x0.fin ≤ x.fin → (∀ y ∈ old, meets y x0) → (joinAll x old).text.size ≤ x.text.size + sumP old := by
  induction old with
  | nil => intro x _ _ _; simp [joinAll, sumP]
  | cons y r ih =>
    intro x h1 h2 hm
    have hy := hm y (by simp)
    have hyx : meets y x := by unfold meets at *; omega
    have hp := join_pos y x
    have hf := join_fin y x hyx
    have hs := join_size y x hyx
    have := ih (joinP y x) (by omega) (by omega) (fun z hz => hm z (by simp [hz]))
    unfold joinAll sumP
    omega
theorem sumP_app (a b : List Pc) : sumP (a ++ b) = sumP a + sumP b := by
  induction a with
  | nil => simp [sumP]
  | cons x r ih => simp only [List.cons_append, sumP, ih]; omega
theorem sumP_cut (l : List Pc) (k : Nat) : sumP l = sumP (l.take k) + sumP (l.drop k) := by
  rw [← sumP_app, List.take_append_drop]
theorem putS_sum (x : Pc) (hp : x.pos < x.fin) (l : List Pc) (e : Int) (h : okP e l = true) : sumP (putS x false l) ≤ x.text.size + sumP l ∧ (putS x false l).length ≤ l.length + 1 := by
  rw [putS_eq x hp l e h]
  have hm := ahead_meets x hp l e h
  have h1 := joinAll_size x _ x (Int.le_refl _) (Int.le_refl _) hm
  have h2 := sumP_cut l (aheadP x l)
  have h3 := sumP_cut (l.drop (aheadP x l)) (meetP x.fin (l.drop (aheadP x l)))
  constructor
  · rw [sumP_app]
    simp only [sumP]
    omega
  · simp only [List.length_append, List.length_cons, List.length_take, List.length_drop]
    omega

/-- What is left when the first piece has reached the end of Ready. -/
def settle (p : Ps) : Ps := match p.list with
  | [] => p
  | x :: r => if x.pos = nextP p then ⟨p.read, p.ready ++ x.text, r⟩ else p
/-- What comes in anew: nothing of what is there already. -/
def newP (p : Ps) (at_ : Int) (text : ByteArray) : Pc := if 0 < nextP p - at_ then ⟨nextP p, text.extract (nextP p - at_).toNat text.size⟩ else ⟨at_, text⟩
def longerP (p : Ps) (at_ : Int) (text : ByteArray) : Ps := settle ⟨p.read, p.ready, putS (newP p at_ text) false p.list⟩
/-- May it come in at all? -/
def mayPut (p : Ps) (at_ : Int) (text : ByteArray) : Prop := piecesOk p = true ∧ (0 ≤ at_ ∧ at_ ≤ 1000000000) ∧ (1 ≤ text.size ∧ text.size ≤ 200) ∧ nextP p - at_ < text.size
instance (p : Ps) (a : Int) (t : ByteArray) : Decidable (mayPut p a t) := by unfold mayPut; infer_instance
def putPiece (p : Ps) (at_ : Int) (text : ByteArray) : Ps := if mayPut p at_ text ∧ piecesOk (longerP p at_ text) = true then longerP p at_ text else p

def takeN (p : Ps) (many : Int) : Int := min many p.ready.size
def mayTake (p : Ps) (many : Int) : Prop := piecesOk p = true ∧ 0 ≤ many ∧ p.read + takeN p many ≤ 1000000000
instance (p : Ps) (m : Int) : Decidable (mayTake p m) := by unfold mayTake; infer_instance
def takeReady (p : Ps) (many : Int) : Ps × ByteArray := if mayTake p many then (⟨p.read + takeN p many, p.ready.extract (takeN p many).toNat p.ready.size, p.list⟩, p.ready.extract 0 (takeN p many).toNat) else (p, ⟨#[]⟩)
end Go.Proofs.Ytdajfnonehianaa
