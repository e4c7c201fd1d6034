/-
  Words of 32 bits in lanes of one big number: what one operation of the number does to each lane; SHA-256's block so. Own work; nothing of the kit is used.
-/
namespace Go.Proofs.YtlkhgamhhblmgaaDoor.Lane
def rotr (x : BitVec 32) (n : Nat) : BitVec 32 := x >>> n ||| x <<< (32 - n)

/-- n lanes of 64 bits. -/
def PN : Nat → (Nat → Nat) → Nat
  | 0, _ => 0
  | n + 1, f => 2 ^ 64 * PN n (fun i => f (i + 1)) + f 0
/-- .. each of a word of 32 bits. -/
def PF (n : Nat) (f : Nat → BitVec 32) : Nat := PN n fun i => (f i).toNat

theorem PN_congr (n : Nat) : ∀ {f g : Nat → Nat}, (∀ i, i < n → f i = g i) → PN n f = PN n g := by
  induction n with
  | zero => intro f g _; rfl
  | succ n ih =>
    intro f g h
    simp only [PN]
    rw [ih (f := fun i => f (i + 1)) (g := fun i => g (i + 1)) (fun i hi => h (i + 1) (by omega)), h 0 (by omega)]

theorem PN_add (n : Nat) : ∀ (f g : Nat → Nat), PN n f + PN n g = PN n fun i => f i + g i := by
  induction n with
  | zero => intro f g; rfl
  | succ n ih =>
    intro f g
    simp only [PN, ← ih]
    omega

theorem PN_mul (n : Nat) (c : Nat) : ∀ (f : Nat → Nat), PN n f * c = PN n fun i => f i * c := by
  induction n with
  | zero => intro f; simp [PN]
  | succ n ih =>
    intro f
    simp only [PN, ← ih]
    rw [Nat.add_mul, Nat.mul_assoc]

theorem PN_bit (n : Nat) (f : Nat → Nat) (h : f 0 < 2 ^ 64) (j : Nat) : (PN (n + 1) f).testBit j = if j < 64 then (f 0).testBit j else (PN n fun i => f (i + 1)).testBit (j - 64) := by
  simp only [PN]
  exact Nat.testBit_two_pow_mul_add _ h j

theorem PN_zero_bit (f : Nat → Nat) (j : Nat) : (PN 0 f).testBit j = false := by simp [PN]

theorem w_lt (x : BitVec 32) : x.toNat < 2 ^ 64 := Nat.lt_of_lt_of_le x.isLt (by decide)

theorem PF_and (n : Nat) : ∀ (f g : Nat → BitVec 32), Nat.land (PF n f) (PF n g) = PF n fun i => f i &&& g i := by
  induction n with
  | zero => intro f g; simp only [PF, PN]; decide
  | succ n ih =>
    intro f g
    apply Nat.eq_of_testBit_eq
    intro j
    have := ih (fun i => f (i + 1)) (fun i => g (i + 1))
    show (PF (n + 1) f &&& PF (n + 1) g).testBit j = _
    unfold PF at *
    rw [Nat.testBit_and, PN_bit _ _ (w_lt _), PN_bit _ _ (w_lt _), PN_bit _ _ (w_lt _), ← this]
    split
    · rw [BitVec.toNat_and, Nat.testBit_and]
    · exact (Nat.testBit_and _ _ _).symm

theorem PF_xor (n : Nat) : ∀ (f g : Nat → BitVec 32), Nat.xor (PF n f) (PF n g) = PF n fun i => f i ^^^ g i := by
  induction n with
  | zero => intro f g; simp only [PF, PN]; decide
  | succ n ih =>
    intro f g
    apply Nat.eq_of_testBit_eq
    intro j
    have := ih (fun i => f (i + 1)) (fun i => g (i + 1))
    show (PF (n + 1) f ^^^ PF (n + 1) g).testBit j = _
    unfold PF at *
    rw [Nat.testBit_xor, PN_bit _ _ (w_lt _), PN_bit _ _ (w_lt _), PN_bit _ _ (w_lt _), ← this]
    split
    · rw [BitVec.toNat_xor, Nat.testBit_xor]
    · exact (Nat.testBit_xor _ _ _).symm

/-- The mask of the lanes. -/
def MM (n : Nat) : Nat := PN n fun _ => 4294967295

theorem cut_bit (j : Nat) : (4294967295 : Nat).testBit j = decide (j < 32) := by
  rw [show (4294967295 : Nat) = 2 ^ 32 - 1 from rfl, Nat.testBit_two_pow_sub_one]

theorem PN_cut (n : Nat) : ∀ (f : Nat → Nat) (a : Nat), a ≤ 32 → (∀ i, i < n → f i < 2 ^ 64) → Nat.land (Nat.shiftRight (PN n f) a) (MM n) = PF n fun i => BitVec.ofNat 32 (f i >>> a) := by
  induction n with
  | zero => intro f a _ _; simp [PN, PF, MM]
  | succ n ih =>
    intro f a ha h
    apply Nat.eq_of_testBit_eq
    intro j
    have hi := congrArg (fun x => Nat.testBit x (j - 64)) (ih (fun i => f (i + 1)) a ha (fun i hi => h (i + 1) (by omega)))
    have e1 : ∀ x y : Nat, Nat.land x y = x &&& y := fun _ _ => rfl
    have e2 : ∀ x y : Nat, Nat.shiftRight x y = x >>> y := fun _ _ => rfl
    simp only [e1, e2, PF, MM, Nat.testBit_and, Nat.testBit_shiftRight] at hi ⊢
    rw [PN_bit _ _ (h 0 (by omega)), PN_bit _ _ (by decide), PN_bit _ _ (w_lt _)]
    by_cases hj : j < 64
    · rw [if_pos hj, if_pos hj, cut_bit, BitVec.toNat_ofNat, Nat.testBit_mod_two_pow, Nat.testBit_shiftRight]
      by_cases h32 : j < 32
      · rw [if_pos (by omega)]; simp [h32]
      · simp [h32]
    · rw [if_neg hj, if_neg hj, ← hi]
      rw [if_neg (by omega), show a + j - 64 = a + (j - 64) by omega]

theorem PN_mask (n : Nat) (f : Nat → Nat) (h : ∀ i, i < n → f i < 2 ^ 64) : Nat.land (PN n f) (MM n) = PF n fun i => BitVec.ofNat 32 (f i) := PN_cut n f 0 (by omega) h

theorem xor3_and (x y z m : Nat) : Nat.land (Nat.xor (Nat.xor x y) z) m = Nat.xor (Nat.xor (Nat.land x m) (Nat.land y m)) (Nat.land z m) := by
  show (x ^^^ y ^^^ z) &&& m = (x &&& m) ^^^ (y &&& m) ^^^ (z &&& m)
  apply Nat.eq_of_testBit_eq
  intro j
  simp only [Nat.testBit_and, Nat.testBit_xor]
  cases x.testBit j <;> cases y.testBit j <;> cases z.testBit j <;> cases m.testBit j <;> rfl

theorem dbl_rot (x : BitVec 32) (a : Nat) (ha : a < 32) : BitVec.ofNat 32 ((x.toNat * 4294967297) >>> a) = rotr x a := by
  have e : x.toNat * 4294967297 = 2 ^ 32 * x.toNat + x.toNat := by omega
  apply BitVec.eq_of_getLsbD_eq
  intro j hj
  rw [e, BitVec.getLsbD_ofNat, Nat.testBit_shiftRight, Nat.testBit_two_pow_mul_add _ x.isLt]
  unfold rotr
  rw [BitVec.getLsbD_or, BitVec.getLsbD_ushiftRight, BitVec.getLsbD_shiftLeft]
  simp only [hj, decide_true, Bool.true_and, BitVec.testBit_toNat]
  by_cases h : a + j < 32
  · rw [if_pos h]
    simp [show j < 32 - a by omega]
  · rw [if_neg h, BitVec.getLsbD_of_ge x (a + j) (by omega), show a + j - 32 = j - (32 - a) by omega]
    simp [show ¬ j < 32 - a by omega]

theorem dbl_lt (x : BitVec 32) : x.toNat * 4294967297 < 2 ^ 64 := by
  have := x.isLt
  omega
/-! The operations on lanes. -/
def frc {α : Type} (x : Nat) (k : Nat → α) : α := @Nat.rec (fun _ => α) (k 0) (fun n _ => k (Nat.succ n)) x
theorem frc_eq {α : Type} (x : Nat) (k : Nat → α) : frc x k = k x := by cases x <;> rfl
def rot3 (M d a b c : Nat) : Nat := Nat.land (Nat.xor (Nat.xor (Nat.shiftRight d a) (Nat.shiftRight d b)) (Nat.shiftRight d c)) M
def dbl (x : Nat) : Nat := Nat.mul x 4294967297
def sig (M x a b c : Nat) : Nat := Nat.land (Nat.xor (Nat.xor (Nat.shiftRight (dbl x) a) (Nat.shiftRight (dbl x) b)) (Nat.shiftRight x c)) M

theorem dbl_lane (n : Nat) (x : Nat → BitVec 32) : dbl (PF n x) = PN n fun i => (x i).toNat * 4294967297 := PN_mul n _ _

theorem rot3_lane (n : Nat) (x : Nat → BitVec 32) (a b c : Nat) (ha : a < 32) (hb : b < 32) (hc : c < 32) :
    rot3 (MM n) (dbl (PF n x)) a b c = PF n fun i => rotr (x i) a ^^^ rotr (x i) b ^^^ rotr (x i) c := by
  have h : ∀ i, i < n → (x i).toNat * 4294967297 < 2 ^ 64 := fun i _ => dbl_lt _
  unfold rot3
  rw [xor3_and, dbl_lane, PN_cut n _ a (by omega) h, PN_cut n _ b (by omega) h, PN_cut n _ c (by omega) h, PF_xor, PF_xor]
  simp only [dbl_rot _ _ ha, dbl_rot _ _ hb, dbl_rot _ _ hc]

theorem sig_lane (n : Nat) (x : Nat → BitVec 32) (a b c : Nat) (ha : a < 32) (hb : b < 32) (hc : c < 32) :
    sig (MM n) (PF n x) a b c = PF n fun i => rotr (x i) a ^^^ rotr (x i) b ^^^ x i >>> c := by
  have h : ∀ i, i < n → (x i).toNat * 4294967297 < 2 ^ 64 := fun i _ => dbl_lt _
  have e : ∀ y : BitVec 32, BitVec.ofNat 32 (y.toNat >>> c) = y >>> c := fun y => by
    apply BitVec.eq_of_toNat_eq
    rw [BitVec.toNat_ofNat, BitVec.toNat_ushiftRight, Nat.shiftRight_eq_div_pow]
    exact Nat.mod_eq_of_lt (Nat.lt_of_le_of_lt (Nat.div_le_self _ _) y.isLt)
  have h3 := PN_cut n (fun i => (x i).toNat) c (by omega) (fun i _ => w_lt _)
  unfold sig
  rw [xor3_and, dbl_lane, PN_cut n _ a (by omega) h, PN_cut n _ b (by omega) h]
  unfold PF at h3 ⊢
  rw [h3]
  have h4 := PF_xor n
  unfold PF at h4
  rw [h4, h4]
  simp only [dbl_rot _ _ ha, dbl_rot _ _ hb, e]

theorem ch_eq (e f g : BitVec 32) : e &&& f ^^^ ~~~ e &&& g = g ^^^ (e &&& (f ^^^ g)) := by
  apply BitVec.eq_of_getLsbD_eq
  intro j hj
  simp only [BitVec.getLsbD_xor, BitVec.getLsbD_and, BitVec.getLsbD_not, hj, decide_true, Bool.true_and]
  cases e.getLsbD j <;> cases f.getLsbD j <;> cases g.getLsbD j <;> rfl

theorem maj_eq (a b c : BitVec 32) : a &&& b ^^^ a &&& c ^^^ b &&& c = a &&& b ^^^ c &&& (a ^^^ b) := by
  apply BitVec.eq_of_getLsbD_eq
  intro j hj
  simp only [BitVec.getLsbD_xor, BitVec.getLsbD_and]
  cases a.getLsbD j <;> cases b.getLsbD j <;> cases c.getLsbD j <;> rfl

theorem PF_nat (n : Nat) (x : Nat → BitVec 32) : PF n x = PN n fun i => (x i).toNat := rfl

theorem of_add (a b : Nat) : BitVec.ofNat 32 (a + b) = BitVec.ofNat 32 a + BitVec.ofNat 32 b := BitVec.ofNat_add _ _
theorem of_to (x : BitVec 32) : BitVec.ofNat 32 x.toNat = x := by simp

/-- The first half of a round. -/
def lowN (M e f g h kw : Nat) : Nat := Nat.add (Nat.add (Nat.add h (rot3 M (dbl e) 6 11 25)) (Nat.xor g (Nat.land e (Nat.xor f g)))) kw
def highN (M a b c : Nat) : Nat := Nat.add (rot3 M (dbl a) 2 13 22) (Nat.xor (Nat.land a b) (Nat.land c (Nat.xor a b)))

def low (e f g h input : BitVec 32) : BitVec 32 := h + (rotr e 6 ^^^ rotr e 11 ^^^ rotr e 25) + (e &&& f ^^^ ~~~ e &&& g) + input
def high (a b c : BitVec 32) : BitVec 32 := (rotr a 2 ^^^ rotr a 13 ^^^ rotr a 22) + (a &&& b ^^^ a &&& c ^^^ b &&& c)

theorem low_lane (n : Nat) (e f g h : Nat → BitVec 32) (kw : Nat → Nat) (hk : ∀ i, i < n → kw i < 2 ^ 40) :
    ∃ t : Nat → Nat, lowN (MM n) (PF n e) (PF n f) (PF n g) (PF n h) (PN n kw) = PN n t ∧ (∀ i, i < n → t i < 2 ^ 41) ∧ ∀ i, BitVec.ofNat 32 (t i) = low (e i) (f i) (g i) (h i) (BitVec.ofNat 32 (kw i)) := by
  refine ⟨fun i => (h i).toNat + (rotr (e i) 6 ^^^ rotr (e i) 11 ^^^ rotr (e i) 25).toNat + (g i ^^^ (e i &&& (f i ^^^ g i))).toNat + kw i, ?_, fun i hi => ?_, fun i => ?_⟩
  · unfold lowN
    rw [rot3_lane n e 6 11 25 (by omega) (by omega) (by omega), PF_xor, PF_and, PF_xor, PF_nat, PF_nat, PF_nat]
    show PN n _ + PN n _ + PN n _ + PN n _ = _
    rw [PN_add, PN_add, PN_add]
  · have h1 := (h i).isLt
    have h2 := (rotr (e i) 6 ^^^ rotr (e i) 11 ^^^ rotr (e i) 25).isLt
    have h3 := (g i ^^^ (e i &&& (f i ^^^ g i))).isLt
    have h4 := hk i hi
    dsimp only
    omega
  · simp only [of_add, of_to]
    rw [← ch_eq]
    rfl

theorem high_lane (n : Nat) (a b c : Nat → BitVec 32) : ∃ t : Nat → Nat, highN (MM n) (PF n a) (PF n b) (PF n c) = PN n t ∧ (∀ i, t i < 2 ^ 34) ∧ ∀ i, BitVec.ofNat 32 (t i) = high (a i) (b i) (c i) := by
  refine ⟨fun i => (rotr (a i) 2 ^^^ rotr (a i) 13 ^^^ rotr (a i) 22).toNat + (a i &&& b i ^^^ c i &&& (a i ^^^ b i)).toNat, ?_, fun i => ?_, fun i => ?_⟩
  · unfold highN
    rw [rot3_lane n a 2 13 22 (by omega) (by omega) (by omega), PF_and, PF_xor, PF_and, PF_xor, PF_nat, PF_nat]
    exact PN_add n _ _
  · have h2 := (rotr (a i) 2 ^^^ rotr (a i) 13 ^^^ rotr (a i) 22).isLt
    have h3 := (a i &&& b i ^^^ c i &&& (a i ^^^ b i)).isLt
    dsimp only
    omega
  · simp only [of_add, of_to]
    rw [← maj_eq]
    rfl

abbrev St (R : Type) := Nat → Nat → Nat → Nat → Nat → Nat → Nat → Nat → R
noncomputable def roundsN {R : Type} (M : Nat) (k : St R) (l : List Nat) : St R :=
  @List.rec Nat (fun _ => St R) k (fun kw _ ih a b c d e f g h =>
    frc (lowN M e f g h kw) fun t1 =>
    frc (Nat.land (Nat.add t1 (highN M a b c)) M) fun a' =>
    frc (Nat.land (Nat.add d t1) M) fun e' => ih a' a b c e' e f g) l

theorem roundsN_cons {R : Type} (M : Nat) (k : St R) (kw : Nat) (l : List Nat) (a b c d e f g h : Nat) :
    roundsN M k (kw :: l) a b c d e f g h = roundsN M k l (Nat.land (Nat.add (lowN M e f g h kw) (highN M a b c)) M) a b c (Nat.land (Nat.add d (lowN M e f g h kw)) M) e f g := by
  show frc (lowN M e f g h kw) (fun t1 => frc (Nat.land (Nat.add t1 (highN M a b c)) M) fun a' => frc (Nat.land (Nat.add d t1) M) fun e' => roundsN M k l a' a b c e' e f g) = _
  rw [frc_eq, frc_eq, frc_eq]

def roundOf (d : Array (BitVec 32)) (i : BitVec 32) : Array (BitVec 32) :=
  #[low d[4]! d[5]! d[6]! d[7]! i + high d[0]! d[1]! d[2]!, d[0]!, d[1]!, d[2]!, d[3]! + low d[4]! d[5]! d[6]! d[7]! i, d[4]!, d[5]!, d[6]!]

/-- Rounds, one for each number. -/
def runA (d : Array (BitVec 32)) : List Nat → Array (BitVec 32)
  | [] => d
  | kw :: l => runA (roundOf d (BitVec.ofNat 32 kw)) l

/-- The words of a state, in lanes. -/
def lane (n : Nat) (d : Nat → Array (BitVec 32)) (k : Nat) : Nat := PF n fun i => (d i)[k]!

theorem rounds_lane {R : Type} (n : Nat) (k : St R) : ∀ (l : List (Nat → Nat)), (∀ kw ∈ l, ∀ i, i < n → kw i < 2 ^ 40) → ∀ d : Nat → Array (BitVec 32),
    roundsN (MM n) k (l.map (PN n)) (lane n d 0) (lane n d 1) (lane n d 2) (lane n d 3) (lane n d 4) (lane n d 5) (lane n d 6) (lane n d 7) =
      (fun D : Nat → Array (BitVec 32) => k (lane n D 0) (lane n D 1) (lane n D 2) (lane n D 3) (lane n D 4) (lane n D 5) (lane n D 6) (lane n D 7)) fun i => runA (d i) (l.map fun f => f i)
  | [], _, d => rfl
  | kw :: l, hl, d => by
    have ih := rounds_lane n k l (fun f hf => hl f (List.mem_cons_of_mem _ hf)) (fun i => roundOf (d i) (BitVec.ofNat 32 (kw i)))
    obtain ⟨t, ht, htb, hte⟩ := low_lane n (fun i => (d i)[4]!) (fun i => (d i)[5]!) (fun i => (d i)[6]!) (fun i => (d i)[7]!) kw (hl kw (List.mem_cons_self))
    obtain ⟨u, hu, hub, hue⟩ := high_lane n (fun i => (d i)[0]!) (fun i => (d i)[1]!) (fun i => (d i)[2]!)
    have e0 : Nat.land (Nat.add (PN n t) (PN n u)) (MM n) = lane n (fun i => roundOf (d i) (BitVec.ofNat 32 (kw i))) 0 := by
      show Nat.land (PN n t + PN n u) (MM n) = _
      rw [PN_add, PN_mask n _ (fun i hi => by have := htb i hi; have := hub i; omega)]
      simp only [of_add, hte, hue]
      rfl
    have e4 : Nat.land (Nat.add (lane n d 3) (PN n t)) (MM n) = lane n (fun i => roundOf (d i) (BitVec.ofNat 32 (kw i))) 4 := by
      show Nat.land (PN n _ + PN n t) (MM n) = _
      rw [PN_add, PN_mask n _ (fun i hi => by have := htb i hi; have := ((d i)[3]!).isLt; omega)]
      simp only [of_add, hte, of_to]
      rfl
    rw [List.map_cons, roundsN_cons]
    have ht' : lowN (MM n) (lane n d 4) (lane n d 5) (lane n d 6) (lane n d 7) (PN n kw) = PN n t := ht
    have hu' : highN (MM n) (lane n d 0) (lane n d 1) (lane n d 2) = PN n u := hu
    rw [ht', hu', e0, e4]
    exact ih

/-! The words of a block, and the block. -/
def ON (n : Nat) : Nat := PN n fun _ => 1
def nxt (M w0 w1 w9 w14 : Nat) : Nat := Nat.land (Nat.add (Nat.add (sig M w14 17 19 10) w9) (Nat.add (sig M w1 7 18 3) w0)) M
abbrev W16 (R : Type) := Nat → Nat → Nat → Nat → Nat → Nat → Nat → Nat → Nat → Nat → Nat → Nat → Nat → Nat → Nat → Nat → R
noncomputable def schedN {R : Type} (M O : Nat) (ks : List Nat) : W16 ((List Nat → R) → R) :=
  @List.rec Nat (fun _ => W16 ((List Nat → R) → R)) (fun _ _ _ _ _ _ _ _ _ _ _ _ _ _ _ _ k => k []) (fun c _ ih w0 w1 w2 w3 w4 w5 w6 w7 w8 w9 w10 w11 w12 w13 w14 w15 k =>
    frc (Nat.add w0 (Nat.mul c O)) fun kw => frc (nxt M w0 w1 w9 w14) fun w16 => ih w1 w2 w3 w4 w5 w6 w7 w8 w9 w10 w11 w12 w13 w14 w15 w16 fun l => k (kw :: l)) ks
theorem schedN_cons {R : Type} (M O c : Nat) (ks : List Nat) (w0 w1 w2 w3 w4 w5 w6 w7 w8 w9 w10 w11 w12 w13 w14 w15 : Nat) (k : List Nat → R) :
    schedN M O (c :: ks) w0 w1 w2 w3 w4 w5 w6 w7 w8 w9 w10 w11 w12 w13 w14 w15 k = schedN M O ks w1 w2 w3 w4 w5 w6 w7 w8 w9 w10 w11 w12 w13 w14 w15 (nxt M w0 w1 w9 w14) fun l => k (Nat.add w0 (Nat.mul c O) :: l) := by
  show frc (Nat.add w0 (Nat.mul c O)) (fun kw => frc (nxt M w0 w1 w9 w14) fun w16 => schedN M O ks w1 w2 w3 w4 w5 w6 w7 w8 w9 w10 w11 w12 w13 w14 w15 w16 fun l => k (kw :: l)) = _
  rw [frc_eq, frc_eq]

theorem nxt_lane (n : Nat) (a b c d : Nat → BitVec 32) : nxt (MM n) (PF n a) (PF n b) (PF n c) (PF n d) = PF n fun i => a i + c i + (rotr (b i) 7 ^^^ rotr (b i) 18 ^^^ b i >>> 3) + (rotr (d i) 17 ^^^ rotr (d i) 19 ^^^ d i >>> 10) := by
  unfold nxt
  rw [sig_lane n d 17 19 10 (by omega) (by omega) (by omega), sig_lane n b 7 18 3 (by omega) (by omega) (by omega), PF_nat, PF_nat, PF_nat, PF_nat]
  show Nat.land (PN n _ + PN n _ + (PN n _ + PN n _)) (MM n) = _
  rw [PN_add, PN_add, PN_add, PN_mask n _ (fun i _ => by
    have h1 := (rotr (d i) 17 ^^^ rotr (d i) 19 ^^^ d i >>> 10).isLt
    have h2 := (c i).isLt
    have h3 := (rotr (b i) 7 ^^^ rotr (b i) 18 ^^^ b i >>> 3).isLt
    have h4 := (a i).isLt
    omega)]
  congr 1
  funext i
  simp only [of_add, of_to]
  ac_rfl

/-- The numbers that the rounds take in. -/
def kwl (w : Nat → Nat → BitVec 32) : List Nat → Nat → List (Nat → Nat)
  | [], _ => []
  | c :: ks, p => (fun i => (w p i).toNat + 1 * c) :: kwl w ks (p + 1)

/-- The words behind the first sixteen. -/
def Seq (w : Nat → Nat → BitVec 32) : Prop := ∀ p i, w (p + 16) i = w p i + w (p + 9) i + (rotr (w (p + 1) i) 7 ^^^ rotr (w (p + 1) i) 18 ^^^ w (p + 1) i >>> 3) + (rotr (w (p + 14) i) 17 ^^^ rotr (w (p + 14) i) 19 ^^^ w (p + 14) i >>> 10)

theorem sched_lane {R : Type} (n : Nat) (w : Nat → Nat → BitVec 32) (hw : Seq w) : ∀ (ks : List Nat) (p : Nat) (k : List Nat → R),
    schedN (MM n) (ON n) ks (PF n (w p)) (PF n (w (p + 1))) (PF n (w (p + 2))) (PF n (w (p + 3))) (PF n (w (p + 4))) (PF n (w (p + 5))) (PF n (w (p + 6))) (PF n (w (p + 7))) (PF n (w (p + 8))) (PF n (w (p + 9))) (PF n (w (p + 10))) (PF n (w (p + 11))) (PF n (w (p + 12))) (PF n (w (p + 13))) (PF n (w (p + 14))) (PF n (w (p + 15))) k = k ((kwl w ks p).map (PN n))
  | [], p, k => rfl
  | c :: ks, p, k => by
    have ih := sched_lane n w hw ks (p + 1) (fun l => k (Nat.add (PF n (w p)) (Nat.mul c (ON n)) :: l))
    rw [schedN_cons, nxt_lane]
    have e : (PF n fun i => w p i + w (p + 9) i + (rotr (w (p + 1) i) 7 ^^^ rotr (w (p + 1) i) 18 ^^^ w (p + 1) i >>> 3) + (rotr (w (p + 14) i) 17 ^^^ rotr (w (p + 14) i) 19 ^^^ w (p + 14) i >>> 10)) = PF n (w (p + 1 + 15)) :=
      PN_congr n fun i _ => by dsimp only; rw [← hw p i]
    rw [e]
    have e2 : Nat.add (PF n (w p)) (Nat.mul c (ON n)) = PN n fun i => (w p i).toNat + 1 * c := by
      show PN n _ + c * ON n = _
      rw [Nat.mul_comm, ON, PN_mul, PN_add]
    rw [e2] at ih ⊢
    exact ih

def ksN : List Nat := [1116352408,1899447441,3049323471,3921009573,961987163,1508970993,2453635748,2870763221,3624381080,310598401,607225278,1426881987,1925078388,2162078206,2614888103,3248222580,3835390401,4022224774,264347078,604807628,770255983,1249150122,1555081692,1996064986,2554220882,2821834349,2952996808,3210313671,3336571891,3584528711,113926993,338241895,666307205,773529912,1294757372,1396182291,1695183700,1986661051,2177026350,2456956037,2730485921,2820302411,3259730800,3345764771,3516065817,3600352804,4094571909,275423344,430227734,506948616,659060556,883997877,958139571,1322822218,1537002063,1747873779,1955562222,2024104815,2227730452,2361852424,2428436474,2756734187,3204031479,3329325298]

noncomputable def blockN {R : Type} (M O : Nat) (k : St R) (s0 s1 s2 s3 s4 s5 s6 s7 w0 w1 w2 w3 w4 w5 w6 w7 w8 w9 w10 w11 w12 w13 w14 w15 : Nat) : R :=
  schedN M O ksN w0 w1 w2 w3 w4 w5 w6 w7 w8 w9 w10 w11 w12 w13 w14 w15 fun l => roundsN M (fun a b c d e f g h =>
    frc (Nat.land (Nat.add s0 a) M) fun a => frc (Nat.land (Nat.add s1 b) M) fun b => frc (Nat.land (Nat.add s2 c) M) fun c => frc (Nat.land (Nat.add s3 d) M) fun d =>
    frc (Nat.land (Nat.add s4 e) M) fun e => frc (Nat.land (Nat.add s5 f) M) fun f => frc (Nat.land (Nat.add s6 g) M) fun g => frc (Nat.land (Nat.add s7 h) M) fun h => k a b c d e f g h) l s0 s1 s2 s3 s4 s5 s6 s7

def addA (h m : Array (BitVec 32)) : Array (BitVec 32) := #[h[0]! + m[0]!, h[1]! + m[1]!, h[2]! + m[2]!, h[3]! + m[3]!, h[4]! + m[4]!, h[5]! + m[5]!, h[6]! + m[6]!, h[7]! + m[7]!]

theorem add_lane (n : Nat) (a b : Nat → BitVec 32) : Nat.land (Nat.add (PF n a) (PF n b)) (MM n) = PF n fun i => a i + b i := by
  show Nat.land (PN n _ + PN n _) (MM n) = _
  rw [PN_add, PN_mask n _ (fun i _ => by have h1 := (a i).isLt; have h2 := (b i).isLt; omega)]
  simp only [of_add, of_to]

theorem kwl_lt (w : Nat → Nat → BitVec 32) (n : Nat) : ∀ (ks : List Nat) (p : Nat), (∀ c ∈ ks, c < 2 ^ 32) → ∀ kw ∈ kwl w ks p, ∀ i, i < n → kw i < 2 ^ 40
  | [], p, _, kw, h, i, _ => by simp [kwl] at h
  | c :: ks, p, hc, kw, h, i, hi => by
    rcases List.mem_cons.1 h with rfl | h
    · have h1 := (w p i).isLt
      have h2 := hc c List.mem_cons_self
      dsimp only
      omega
    · exact kwl_lt w n ks (p + 1) (fun c h => hc c (List.mem_cons_of_mem _ h)) kw h i hi

theorem ksN_lt : ∀ c ∈ ksN, c < 2 ^ 32 := by decide

theorem block_lane {R : Type} (n : Nat) (k : St R) (H : Nat → Array (BitVec 32)) (w : Nat → Nat → BitVec 32) (hw : Seq w) :
    blockN (MM n) (ON n) k (lane n H 0) (lane n H 1) (lane n H 2) (lane n H 3) (lane n H 4) (lane n H 5) (lane n H 6) (lane n H 7) (PF n (w 0)) (PF n (w 1)) (PF n (w 2)) (PF n (w 3)) (PF n (w 4)) (PF n (w 5)) (PF n (w 6)) (PF n (w 7)) (PF n (w 8)) (PF n (w 9)) (PF n (w 10)) (PF n (w 11)) (PF n (w 12)) (PF n (w 13)) (PF n (w 14)) (PF n (w 15)) = (fun D : Nat → Array (BitVec 32) => k (lane n D 0) (lane n D 1) (lane n D 2) (lane n D 3) (lane n D 4) (lane n D 5) (lane n D 6) (lane n D 7)) fun i => addA (H i) (runA (H i) ((kwl w ksN 0).map fun f => f i)) := by
  unfold blockN
  have h := sched_lane (R := R) n w hw ksN 0
  simp only [Nat.zero_add] at h
  rw [h, rounds_lane n _ (kwl w ksN 0) (kwl_lt w n ksN 0 ksN_lt)]
  simp only [frc_eq, lane, add_lane]
  rfl
end Go.Proofs.YtlkhgamhhblmgaaDoor.Lane
