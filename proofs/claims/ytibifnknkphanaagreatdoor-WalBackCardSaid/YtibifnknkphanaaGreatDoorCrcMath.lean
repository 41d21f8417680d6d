/-
  The plain mathematics of CRC-32C: 32 bits that step, as natural numbers. A step is linear over xor, and only nought steps to nought. No function of the program is walked here.
-/

namespace Go.Proofs.YtibifnknkphanaaGreatDoor
set_option linter.unusedVariables false

/-- What is xored. -/
def poly : Nat := 2197175160
/-- The lowest bit goes out, the others step down. -/
def stepT (s : Nat) : Nat := (s / 2) ^^^ (if s % 2 = 1 then poly else 0)
/-- So many steps. -/
def stepN : Nat → Nat → Nat
  | 0, s => s
  | n + 1, s => stepN n (stepT s)

theorem xor_div2 (a b : Nat) : (a ^^^ b) / 2 = (a / 2) ^^^ (b / 2) := by
  apply Nat.eq_of_testBit_eq; intro i
  rw [Nat.testBit_xor, ← Nat.testBit_succ, ← Nat.testBit_succ, ← Nat.testBit_succ, Nat.testBit_xor]
theorem odd_testBit (a : Nat) : (decide (a % 2 = 1)) = a.testBit 0 := by simp [Nat.testBit_zero]
theorem xor_odd (a b : Nat) : decide ((a ^^^ b) % 2 = 1) = (decide (a % 2 = 1) ^^ decide (b % 2 = 1)) := by
  rw [odd_testBit, odd_testBit, odd_testBit, Nat.testBit_xor]
theorem stepT_zero : stepT 0 = 0 := by simp [stepT]
theorem stepT_xor (a b : Nat) : stepT (a ^^^ b) = stepT a ^^^ stepT b := by
  have h := xor_odd a b
  unfold stepT
  rw [xor_div2]
  generalize (a ^^^ b) % 2 = x at h ⊢
  by_cases ha : a % 2 = 1 <;> by_cases hb : b % 2 = 1
  · simp only [ha, hb, decide_true, Bool.xor_true, Bool.not_true, decide_eq_false_iff_not] at h
    rw [if_neg h, if_pos ha, if_pos hb]
    rw [Nat.xor_zero, Nat.xor_assoc (a / 2), ← Nat.xor_assoc poly, Nat.xor_comm poly (b / 2), Nat.xor_assoc (b / 2), Nat.xor_self, Nat.xor_zero]
  · simp only [ha, hb, decide_true, decide_false, Bool.xor_false, decide_eq_true_eq] at h
    rw [if_pos h, if_pos ha, if_neg hb, Nat.xor_zero, Nat.xor_assoc, Nat.xor_comm (b / 2), ← Nat.xor_assoc]
  · simp only [ha, hb, decide_true, decide_false, Bool.false_xor, decide_eq_true_eq] at h
    rw [if_pos h, if_neg ha, if_pos hb, Nat.xor_zero, Nat.xor_assoc]
  · simp only [ha, hb, decide_false, Bool.false_xor, decide_eq_false_iff_not] at h
    rw [if_neg h, if_neg ha, if_neg hb, Nat.xor_zero, Nat.xor_zero, Nat.xor_zero]
theorem stepT_lt {a : Nat} (h : a < 4294967296) : stepT a < 4294967296 := by
  unfold stepT
  exact Nat.xor_lt_two_pow (n := 32) (by omega) (by split <;> decide)
theorem stepT_kernel {a : Nat} (h : a < 4294967296) (h0 : stepT a = 0) : a = 0 := by
  unfold stepT at h0
  by_cases ha : a % 2 = 1
  · rw [if_pos ha] at h0
    have h1 : a / 2 < 2 ^ 31 := by omega
    have h2 := congrArg (fun n => Nat.testBit n 31) h0
    simp only [Nat.testBit_xor, Nat.testBit_lt_two_pow h1, Nat.zero_testBit] at h2
    exact absurd h2 (by decide)
  · rw [if_neg ha, Nat.xor_zero] at h0
    omega
theorem stepT_double (x : Nat) : stepT (2 * x) = x := by
  unfold stepT
  rw [if_neg (by omega), Nat.xor_zero]
  omega

theorem stepN_zero : ∀ n, stepN n 0 = 0
  | 0 => rfl
  | n + 1 => by rw [stepN, stepT_zero, stepN_zero n]
theorem stepN_xor : ∀ (n a b : Nat), stepN n (a ^^^ b) = stepN n a ^^^ stepN n b
  | 0, _, _ => rfl
  | n + 1, a, b => by rw [stepN, stepN, stepN, stepT_xor, stepN_xor n]
theorem stepN_lt : ∀ (n : Nat) {a : Nat}, a < 4294967296 → stepN n a < 4294967296
  | 0, _, h => h
  | n + 1, _, h => stepN_lt n (stepT_lt h)
theorem stepN_kernel : ∀ (n : Nat) {a : Nat}, a < 4294967296 → stepN n a = 0 → a = 0
  | 0, _, _, h0 => h0
  | n + 1, _, h, h0 => stepT_kernel h (stepN_kernel n (stepT_lt h) h0)
theorem stepN_add : ∀ (m n a : Nat), stepN (m + n) a = stepN n (stepN m a)
  | 0, n, a => by rw [Nat.zero_add]; rfl
  | m + 1, n, a => by rw [Nat.add_right_comm, stepN, stepN, stepN_add m n]
theorem stepN_pow : ∀ (n x : Nat), stepN n (x * 2 ^ n) = x
  | 0, x => by simp [stepN]
  | n + 1, x => by
    rw [stepN, show x * 2 ^ (n + 1) = 2 * (x * 2 ^ n) by rw [Nat.pow_succ]; ac_rfl, stepT_double, stepN_pow n]
theorem stepN_succ (n a : Nat) : stepN (n + 1) a = stepT (stepN n a) := by rw [stepN_add n 1]; rfl
theorem xor_eq_zero {a b : Nat} (h : a ^^^ b = 0) : a = b := by
  have := congrArg (fun x => x ^^^ b) h
  simpa [Nat.xor_assoc] using this
theorem xor_cancel {a b c : Nat} (h : a ^^^ c = b ^^^ c) : a = b := by
  have := congrArg (fun x => x ^^^ c) h
  simpa [Nat.xor_assoc] using this
theorem stepN_inj (n : Nat) {a b : Nat} (ha : a < 4294967296) (hb : b < 4294967296) (h : stepN n a = stepN n b) : a = b := by
  apply xor_eq_zero
  refine stepN_kernel n (Nat.xor_lt_two_pow (n := 32) ha hb) ?_
  rw [stepN_xor, h, Nat.xor_self]

/-- Low bits, and the rest behind them, do not meet. -/
theorem low_xor (k c x : Nat) (h : c < 2 ^ k) : c ^^^ (x * 2 ^ k) = c + x * 2 ^ k := by
  apply Nat.eq_of_testBit_eq; intro i
  rw [Nat.testBit_xor, Nat.add_comm, Nat.mul_comm x, Nat.testBit_two_pow_mul_add _ h]
  by_cases hi : i < k
  · rw [if_pos hi, Nat.testBit_two_pow_mul]
    have : decide (i ≥ k) = false := by simp; omega
    simp [this]
  · rw [if_neg hi, Nat.testBit_two_pow_mul]
    have h1 : decide (i ≥ k) = true := by simp; omega
    rw [Nat.testBit_lt_two_pow (Nat.lt_of_lt_of_le h (Nat.pow_le_pow_right (by decide) (by omega))), h1]
    simp

/-- Four bits at once. -/
theorem stepN_nibble (s : Nat) : stepN 4 s = (s / 16) ^^^ stepN 4 (s % 16) := by
  have e : s = (s % 16) ^^^ ((s / 16) * 2 ^ 4) := by rw [low_xor 4 _ _ (by omega)]; omega
  have h := congrArg (stepN 4) e
  rw [stepN_xor, stepN_pow] at h
  rw [h, Nat.xor_comm]

/-- A byte, taken in. -/
def takeB (s : Nat) (c : UInt8) : Nat := stepN 8 (s ^^^ c.toNat)
def sumFrom (s : Nat) (l : List UInt8) : Nat := l.foldl takeB s
/-- The sum of bytes. -/
def crcN (l : List UInt8) : Nat := 4294967295 - sumFrom 4294967295 l

theorem byte_lt (c : UInt8) : c.toNat < 4294967296 := Nat.lt_trans c.toNat_lt (by decide)
theorem takeB_lt {s : Nat} (c : UInt8) (h : s < 4294967296) : takeB s c < 4294967296 := stepN_lt 8 (Nat.xor_lt_two_pow (n := 32) h (byte_lt c))
theorem sumFrom_lt : ∀ (l : List UInt8) {s : Nat}, s < 4294967296 → sumFrom s l < 4294967296
  | [], _, h => h
  | c :: l, _, h => sumFrom_lt l (takeB_lt c h)
theorem sumFrom_append (s : Nat) (l m : List UInt8) : sumFrom s (l ++ m) = sumFrom (sumFrom s l) m := by simp [sumFrom]
theorem sumFrom_snoc (s : Nat) (l : List UInt8) (c : UInt8) : sumFrom s (l ++ [c]) = takeB (sumFrom s l) c := by simp [sumFrom]
theorem crcN_lt (l : List UInt8) : crcN l < 4294967296 := by unfold crcN; omega

/-- Bytes as a number, the lowest first. -/
def leN : List UInt8 → Nat
  | [] => 0
  | c :: l => c.toNat + leN l * 256
theorem sumFrom_le : ∀ (l : List UInt8) (s : Nat), sumFrom s l = stepN (8 * l.length) (s ^^^ leN l)
  | [], s => by simp [sumFrom, leN, stepN]
  | c :: l, s => by
    show sumFrom (takeB s c) l = _
    rw [sumFrom_le l]
    have e : leN (c :: l) = c.toNat ^^^ (leN l * 2 ^ 8) := by rw [low_xor 8 _ _ c.toNat_lt]; rfl
    rw [e, ← Nat.xor_assoc, show 8 * (c :: l).length = 8 + 8 * l.length by simp; omega, stepN_add, stepN_xor 8, stepN_pow]
    rfl
theorem leN_append : ∀ (l m : List UInt8), leN (l ++ m) = leN l + leN m * 256 ^ l.length
  | [], m => by simp [leN]
  | c :: l, m => by
    simp only [List.cons_append, leN, leN_append l m, List.length_cons, Nat.pow_succ, Nat.add_mul]
    rw [Nat.mul_assoc, Nat.add_assoc]
theorem leN_lt : ∀ (l : List UInt8), leN l < 256 ^ l.length
  | [] => by simp [leN]
  | c :: l => by
    have h := leN_lt l
    have hc : c.toNat < 256 := c.toNat_lt
    simp only [leN, List.length_cons, Nat.pow_succ]
    omega

/-- Four bytes of a number, the lowest first. -/
def le4 (n : Nat) : List UInt8 := [UInt8.ofNat (n % 256), UInt8.ofNat (n / 256 % 256), UInt8.ofNat (n / 65536 % 256), UInt8.ofNat (n / 16777216 % 256)]
theorem le4_length (n : Nat) : (le4 n).length = 4 := rfl
theorem u8_toNat (n : Nat) : (UInt8.ofNat (n % 256)).toNat = n % 256 := by simp
theorem leN_le4 {n : Nat} (h : n < 4294967296) : leN (le4 n) = n := by
  simp only [le4, leN, u8_toNat]; omega
theorem le4_leN (t : List UInt8) (h : t.length = 4) : le4 (leN t) = t := by
  match t, h with
  | [a, b, c, d], _ =>
    have ha : a.toNat < 256 := a.toNat_lt
    have hb : b.toNat < 256 := b.toNat_lt
    have hc : c.toNat < 256 := c.toNat_lt
    have hd : d.toNat < 256 := d.toNat_lt
    have k : ∀ (x : UInt8) (n : Nat), n = x.toNat → UInt8.ofNat n = x := fun x n e => by subst e; simp
    simp only [le4, leN]
    rw [k a _ (by omega), k b _ (by omega), k c _ (by omega), k d _ (by omega)]

/-- Bytes, closed. -/
def closeB (l : List UInt8) : List UInt8 := l ++ le4 (crcN l)
theorem closeB_length (l : List UInt8) : (closeB l).length = l.length + 4 := by simp [closeB, le4_length]
/-- The sum of whatever is closed. -/
def resN : Nat := crcN (le4 0)

theorem ones_sub {n : Nat} (h : n < 4294967296) : 4294967295 - n = 4294967295 ^^^ n := by
  apply Nat.eq_of_testBit_eq; intro i
  rw [show 4294967295 - n = 2 ^ 32 - (n + 1) by omega, Nat.testBit_two_pow_sub_succ h, Nat.testBit_xor, show (4294967295 : Nat) = 2 ^ 32 - 1 from rfl, Nat.testBit_two_pow_sub_one]
  by_cases hi : i < 32
  · simp [hi]
  · have h2 : 2 ^ 32 ≤ 2 ^ i := Nat.pow_le_pow_right (by decide) (by omega)
    rw [Nat.testBit_lt_two_pow (Nat.lt_of_lt_of_le h h2)]
    simp [hi]

theorem crcN_nil : crcN [] = 0 := rfl
/-- Four bytes behind others: the sum is the residue just if they are the others' sum. -/
theorem closed_iff (m t : List UInt8) (h : t.length = 4) : crcN (m ++ t) = resN ↔ t = le4 (crcN m) := by
  have hs := sumFrom_lt m (s := 4294967295) (by decide)
  have ht := leN_lt t
  rw [h] at ht
  have ht' : leN t < 4294967296 := ht
  have e1 : sumFrom 4294967295 (m ++ t) = stepN 32 (sumFrom 4294967295 m ^^^ leN t) := by rw [sumFrom_append, sumFrom_le t, h]
  have e2 : sumFrom 4294967295 (le4 0) = stepN 32 4294967295 := by rw [sumFrom_le, leN_le4 (by decide), Nat.xor_zero]; rfl
  have hx : sumFrom 4294967295 m ^^^ leN t < 4294967296 := Nat.xor_lt_two_pow (n := 32) hs ht'
  have b1 := stepN_lt 32 hx
  have b2 := stepN_lt 32 (a := 4294967295) (by decide)
  have e3 : crcN m = 4294967295 ^^^ sumFrom 4294967295 m := ones_sub hs
  unfold resN
  constructor
  · intro hc
    unfold crcN at hc
    rw [e1, e2] at hc
    have h1 : stepN 32 (sumFrom 4294967295 m ^^^ leN t) = stepN 32 4294967295 := by omega
    have h2 := stepN_inj 32 hx (by decide) h1
    have h3 : leN t = crcN m := by
      rw [e3]
      generalize sumFrom 4294967295 m = x at h2
      rw [← h2, Nat.xor_comm x, Nat.xor_assoc, Nat.xor_self, Nat.xor_zero]
    rw [← h3, le4_leN t h]
  · intro hc
    have h3 : leN t = crcN m := by rw [hc, leN_le4 (crcN_lt m)]
    unfold crcN
    rw [e1, e2, h3, e3, Nat.xor_comm 4294967295, ← Nat.xor_assoc, Nat.xor_self, Nat.zero_xor]
theorem crcN_close (l : List UInt8) : crcN (closeB l) = resN := (closed_iff l _ (le4_length _)).2 rfl
/-- May bytes be opened? -/
def opens (l : List UInt8) : Bool := decide (4 ≤ l.length) && decide (crcN l = resN)
theorem opens_close (l : List UInt8) : opens (closeB l) = true := by simp [opens, closeB_length, crcN_close]
/-- They may just if they are closed. -/
theorem opens_iff (l : List UInt8) (h : 4 ≤ l.length) : crcN l = resN ↔ closeB (l.take (l.length - 4)) = l := by
  have e : l = l.take (l.length - 4) ++ l.drop (l.length - 4) := (List.take_append_drop _ _).symm
  have ht : (l.drop (l.length - 4)).length = 4 := by simp; omega
  have := closed_iff (l.take (l.length - 4)) _ ht
  rw [← e] at this
  rw [this]
  unfold closeB
  constructor
  · intro hh
    rw [← hh, ← e]
  · intro hh
    have h2 : l.take (l.length - 4) ++ le4 (crcN (l.take (l.length - 4))) = l.take (l.length - 4) ++ l.drop (l.length - 4) := by rw [hh, ← e]
    exact (List.append_cancel_left h2).symm
theorem take_close (l : List UInt8) : (closeB l).take ((closeB l).length - 4) = l := by
  rw [closeB_length, Nat.add_sub_cancel]
  unfold closeB
  rw [List.take_left']
  rfl

/-- A bit, taken in, as the document does. -/
def bitIn (c : Nat) : Nat → Nat → Nat
  | 0, s => s
  | k + 1, s => stepT (bitIn c k s ^^^ (c / 2 ^ k % 2))
theorem bitIn_lt (c : Nat) : ∀ (k : Nat) {s : Nat}, s < 4294967296 → bitIn c k s < 4294967296
  | 0, _, h => h
  | k + 1, _, h => stepT_lt (Nat.xor_lt_two_pow (n := 32) (bitIn_lt c k h) (by omega))
theorem bitIn_step (c : Nat) : ∀ (k s : Nat), bitIn c k s ^^^ (c / 2 ^ k) = stepN k (s ^^^ c)
  | 0, s => by simp [bitIn, stepN]
  | k + 1, s => by
    rw [stepN_succ, ← bitIn_step c k s, bitIn]
    have e : c / 2 ^ k = (c / 2 ^ k % 2) ^^^ ((c / 2 ^ (k + 1)) * 2 ^ 1) := by
      rw [low_xor 1 _ _ (by omega), Nat.pow_succ, ← Nat.div_div_eq_div_mul]; omega
    rw [e, ← Nat.xor_assoc, stepT_xor (bitIn c k s ^^^ _), Nat.pow_one, Nat.mul_comm (c / 2 ^ (k + 1)), stepT_double]
    congr 3
    rw [← Nat.mul_comm (c / 2 ^ (k + 1)), ← Nat.pow_one 2, ← e]
theorem bitIn_byte (c : UInt8) (s : Nat) : bitIn c.toNat 8 s = takeB s c := by
  have h := bitIn_step c.toNat 8 s
  have hc : c.toNat / 2 ^ 8 = 0 := by have : c.toNat < 256 := c.toNat_lt; omega
  rw [hc, Nat.xor_zero] at h
  exact h
/-- A bit of what a step leaves. -/
theorem stepT_bit (s b i : Nat) (hb : b < 2) : (stepT (s ^^^ b)).testBit i = (s.testBit (i + 1) ^^ ((s.testBit 0 ^^ decide (b = 1)) && poly.testBit i)) := by
  have h1 : (s ^^^ b) / 2 = s / 2 := by rw [xor_div2, show b / 2 = 0 by omega, Nat.xor_zero]
  have h2 : decide ((s ^^^ b) % 2 = 1) = (s.testBit 0 ^^ decide (b = 1)) := by
    rw [xor_odd, odd_testBit, show b % 2 = b by omega]
  unfold stepT
  rw [h1, Nat.testBit_xor, ← Nat.testBit_succ, ← h2]
  by_cases h : (s ^^^ b) % 2 = 1 <;> simp [h]

/-- The number that the document reads back from the bits, from bit j on. -/
theorem back_step (s j : Nat) : 2 * (2 ^ (32 - (j + 1)) - 1 - s / 2 ^ (j + 1)) + (if s.testBit j then 0 else 1) = 2 * 2 ^ (32 - (j + 1)) - 1 - s / 2 ^ j ∨ 2 ^ (32 - (j + 1)) ≤ s / 2 ^ (j + 1) := by
  have h1 : s / 2 ^ (j + 1) = s / 2 ^ j / 2 := by rw [Nat.pow_succ, Nat.div_div_eq_div_mul]
  have h2 : s.testBit j = decide (s / 2 ^ j % 2 = 1) := by rw [Nat.testBit_eq_decide_div_mod_eq]
  rw [h1, h2]
  generalize s / 2 ^ j = x
  generalize 2 ^ (32 - (j + 1)) = p
  by_cases h : x % 2 = 1 <;> simp [h] <;> omega

/-- A change of one byte. -/
theorem leN_set : ∀ (l : List UInt8) (j : Nat) (v : UInt8) (hj : j < l.length), leN (l.set j (l[j] ^^^ v)) = leN l ^^^ (v.toNat * 256 ^ j)
  | c :: l, 0, v, _ => by
    simp only [List.set_cons_zero, leN, List.getElem_cons_zero, Nat.pow_zero, Nat.mul_one]
    have hv : v.toNat < 256 := v.toNat_lt
    have hc : c.toNat < 256 := c.toNat_lt
    have h1 := low_xor 8 (c.toNat ^^^ v.toNat) (leN l) (Nat.xor_lt_two_pow (n := 8) hc hv)
    have h2 := low_xor 8 c.toNat (leN l) hc
    rw [UInt8.toNat_xor]
    show (c.toNat ^^^ v.toNat) + leN l * 2 ^ 8 = (c.toNat + leN l * 2 ^ 8) ^^^ v.toNat
    rw [← h1, ← h2, Nat.xor_assoc, Nat.xor_assoc, Nat.xor_comm v.toNat]
  | c :: l, j + 1, v, hj => by
    simp only [List.set_cons_succ, leN, List.getElem_cons_succ]
    rw [leN_set l j v (by simpa using hj)]
    have hc : c.toNat < 256 := c.toNat_lt
    have h1 := low_xor 8 c.toNat (leN l) hc
    have h2 := low_xor 8 c.toNat (leN l ^^^ v.toNat * 256 ^ j) hc
    have h3 : (leN l ^^^ v.toNat * 256 ^ j) * 2 ^ 8 = (leN l * 2 ^ 8) ^^^ (v.toNat * 256 ^ (j + 1)) := by
      rw [← Nat.shiftLeft_eq, Nat.shiftLeft_xor_distrib, Nat.shiftLeft_eq, Nat.shiftLeft_eq, Nat.pow_succ 256 j, Nat.mul_assoc]
    show c.toNat + (leN l ^^^ v.toNat * 256 ^ j) * 2 ^ 8 = (c.toNat + leN l * 2 ^ 8) ^^^ (v.toNat * 256 ^ (j + 1))
    rw [← h2, ← h1, h3, Nat.xor_assoc]

/-- Closed bytes that changed within 32 bits that follow one another are not opened. -/
theorem changed_shut (l m : List UInt8) (at_ flips : Nat) (hl : m.length = l.length) (hat : at_ + 32 ≤ 8 * l.length) (h0 : 0 < flips) (h32 : flips < 4294967296) (hc : crcN l = resN)
    (hm : leN m = leN l ^^^ (flips * 2 ^ at_)) : crcN m ≠ resN := by
  intro h
  rw [← hc] at h
  unfold crcN at h
  have b1 := sumFrom_lt l (s := 4294967295) (by decide)
  have b2 := sumFrom_lt m (s := 4294967295) (by decide)
  have e : sumFrom 4294967295 m = sumFrom 4294967295 l := by omega
  rw [sumFrom_le, sumFrom_le, hl, hm, ← Nat.xor_assoc, stepN_xor] at e
  have e2 : stepN (8 * l.length) (flips * 2 ^ at_) = 0 := by
    have := congrArg (fun x => stepN (8 * l.length) (4294967295 ^^^ leN l) ^^^ x) e
    simpa [← Nat.xor_assoc] using this
  rw [show 8 * l.length = at_ + (8 * l.length - at_) by omega, stepN_add, stepN_pow] at e2
  have := stepN_kernel _ h32 e2
  omega
/-- One bit more of the change. -/
theorem change_bit (x flips at_ i : Nat) : x ^^^ ((flips % 2 ^ i) * 2 ^ at_) ^^^ ((flips / 2 ^ i % 2) * 2 ^ (at_ + i)) = x ^^^ ((flips % 2 ^ (i + 1)) * 2 ^ at_) := by
  rw [Nat.xor_assoc]
  congr 1
  have h := low_xor i (flips % 2 ^ i) (flips / 2 ^ i % 2) (Nat.mod_lt _ (Nat.two_pow_pos i))
  have e : flips % 2 ^ (i + 1) = flips % 2 ^ i + (flips / 2 ^ i % 2) * 2 ^ i := by
    rw [Nat.pow_succ, Nat.mod_mul]; rw [Nat.mul_comm]
  rw [e, ← h, ← Nat.shiftLeft_eq _ at_, ← Nat.shiftLeft_eq _ at_, Nat.shiftLeft_xor_distrib, Nat.shiftLeft_eq, Nat.shiftLeft_eq, Nat.pow_add, Nat.mul_comm (2 ^ at_), Nat.mul_assoc]
end Go.Proofs.YtibifnknkphanaaGreatDoor
