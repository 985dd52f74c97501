/-
  Plain facts on the sum of some bytes (32 bits, reflected), as numbers. No program is named here.
-/
import Derived.WalkKit
namespace Go.Proofs.YtjhfgajhmenboaaDoor
set_option linter.unusedVariables false
set_option linter.unusedSimpArgs false

/-- One bit's step, one byte's, a row's; the sum. -/
def crcBit (c : Nat) : Nat := if c % 2 = 1 then (c / 2) ^^^ 3988292384 else c / 2
def crcBits : Nat → Nat → Nat
  | 0, c => c
  | k + 1, c => crcBits k (crcBit c)
def crcByte (c b : Nat) : Nat := crcBits 8 (c ^^^ b)
def crcRow (c : Nat) (l : List UInt8) : Nat := l.foldl (fun c b => crcByte c b.toNat) c
def crcL (l : List UInt8) : Nat := crcRow 4294967295 l ^^^ 4294967295

theorem crcBit_yes {c : Nat} (h : c % 2 = 1) : crcBit c = (c / 2) ^^^ 3988292384 := if_pos h
theorem crcBit_no {c : Nat} (h : c % 2 = 0) : crcBit c = c / 2 := if_neg (by omega)
theorem xor_lt {a b : Nat} (ha : a < 4294967296) (hb : b < 4294967296) : a ^^^ b < 4294967296 := Nat.xor_lt_two_pow (n := 32) ha hb
theorem crcBit_lt {c : Nat} (h : c < 4294967296) : crcBit c < 4294967296 := by
  unfold crcBit; split
  · exact xor_lt (by omega) (by omega)
  · omega
theorem crcBits_lt (k : Nat) : ∀ {c : Nat}, c < 4294967296 → crcBits k c < 4294967296 := by
  induction k with
  | zero => exact fun h => h
  | succ k ih => exact fun h => ih (crcBit_lt h)
theorem crcBits_add (j k c : Nat) : crcBits (j + k) c = crcBits k (crcBits j c) := by
  induction j generalizing c with
  | zero => rw [Nat.zero_add]; rfl
  | succ j ih => rw [Nat.succ_add]; exact ih _
theorem crcBits_next (k c : Nat) : crcBits (k + 1) c = crcBit (crcBits k c) := crcBits_add k 1 c
theorem crcBits_zero (c : Nat) : crcBits 0 c = c := rfl
theorem crcBits_succ (k c : Nat) : crcBits (k + 1) c = crcBits k (crcBit c) := rfl
theorem crcByte_def (c b : Nat) : crcByte c b = crcBits 8 (c ^^^ b) := rfl
attribute [irreducible] crcBits crcByte
theorem crcByte_lt {c : Nat} (b : UInt8) (h : c < 4294967296) : crcByte c b.toNat < 4294967296 := by
  rw [crcByte_def]; exact crcBits_lt 8 (xor_lt h (by have := b.toNat_lt; omega))
theorem crcRow_nil (c : Nat) : crcRow c [] = c := List.foldl_nil
theorem crcRow_cons (c : Nat) (b : UInt8) (l : List UInt8) : crcRow c (b :: l) = crcRow (crcByte c b.toNat) l := List.foldl_cons
attribute [irreducible] crcRow
theorem crcRow_lt (l : List UInt8) : ∀ {c : Nat}, c < 4294967296 → crcRow c l < 4294967296 := by
  induction l with
  | nil => intro c h; rw [crcRow_nil]; exact h
  | cons b l ih => intro c h; rw [crcRow_cons]; exact ih (crcByte_lt b h)
theorem crcL_lt (l : List UInt8) : crcL l < 4294967296 := xor_lt (crcRow_lt l (by omega)) (by omega)
theorem crcRow_append (l m : List UInt8) : ∀ c, crcRow c (l ++ m) = crcRow (crcRow c l) m := by
  induction l with
  | nil => intro c; rw [List.nil_append, crcRow_nil]
  | cons b l ih => intro c; rw [List.cons_append, crcRow_cons, crcRow_cons]; exact ih _
theorem crcRow_one (c : Nat) (b : UInt8) : crcRow c [b] = crcByte c b.toNat := by rw [crcRow_cons, crcRow_nil]
theorem crcRow_take (l : List UInt8) (c k : Nat) (h : k < l.length) : crcRow c (l.take (k + 1)) = crcByte (crcRow c (l.take k)) (l.getD k 0).toNat := by
  have e : l.getD k 0 = l[k] := by simp [List.getD, List.getElem?_eq_getElem h]
  rw [List.take_add_one, crcRow_append, e, List.getElem?_eq_getElem h, Option.toList_some, crcRow_one]

/-! ### Both ways -/
theorem crcBit_inj {a b : Nat} (ha : a < 4294967296) (hb : b < 4294967296) (h : crcBit a = crcBit b) : a = b := by
  have top : ∀ {x y : Nat}, x < 2147483648 → y < 2147483648 → x ^^^ 3988292384 = y → False := by
    intro x y hx hy e
    have h1 : (x ^^^ 3988292384).testBit 31 = true := by
      rw [Nat.testBit_xor, Nat.testBit_lt_two_pow (show x < 2 ^ 31 by omega)]
      decide
    rw [e, Nat.testBit_lt_two_pow (show y < 2 ^ 31 by omega)] at h1
    cases h1
  have cancel : ∀ {x y z : Nat}, x ^^^ z = y ^^^ z → x = y := by
    intro x y z e
    have := congrArg (· ^^^ z) e
    simp only [Nat.xor_assoc, Nat.xor_self, Nat.xor_zero] at this
    exact this
  rcases Nat.mod_two_eq_zero_or_one a with h1 | h1 <;> rcases Nat.mod_two_eq_zero_or_one b with h2 | h2
  · rw [crcBit_no h1, crcBit_no h2] at h; omega
  · rw [crcBit_no h1, crcBit_yes h2] at h; exact (top (by omega) (by omega) h.symm).elim
  · rw [crcBit_yes h1, crcBit_no h2] at h; exact (top (by omega) (by omega) h).elim
  · rw [crcBit_yes h1, crcBit_yes h2] at h
    have := cancel h
    omega
theorem crcBits_inj (k : Nat) : ∀ {a b : Nat}, a < 4294967296 → b < 4294967296 → crcBits k a = crcBits k b → a = b := by
  induction k with
  | zero => intro a b _ _ h; rw [crcBits_zero, crcBits_zero] at h; exact h
  | succ k ih =>
    intro a b ha hb h
    rw [crcBits_succ, crcBits_succ] at h
    exact crcBit_inj ha hb (ih (crcBit_lt ha) (crcBit_lt hb) h)
theorem crcByte_inj {a b : Nat} {x y : UInt8} (ha : a < 4294967296) (hb : b < 4294967296) (h : crcByte a x.toNat = crcByte b y.toNat) : a ^^^ x.toNat = b ^^^ y.toNat := by
  rw [crcByte_def, crcByte_def] at h
  exact crcBits_inj 8 (xor_lt ha (by have := x.toNat_lt; omega)) (xor_lt hb (by have := y.toNat_lt; omega)) h
theorem xor_left {z x y : Nat} (h : z ^^^ x = z ^^^ y) : x = y := by
  have := congrArg (z ^^^ ·) h
  simp only [← Nat.xor_assoc, Nat.xor_self, Nat.zero_xor] at this
  exact this
theorem xor_right {z x y : Nat} (h : x ^^^ z = y ^^^ z) : x = y := by
  rw [Nat.xor_comm x, Nat.xor_comm y] at h; exact xor_left h
theorem crcRow_inj (l : List UInt8) : ∀ {a b : Nat}, a < 4294967296 → b < 4294967296 → crcRow a l = crcRow b l → a = b := by
  induction l with
  | nil => intro x y _ _ h; rw [crcRow_nil, crcRow_nil] at h; exact h
  | cons b l ih =>
    intro x y hx hy h
    rw [crcRow_cons, crcRow_cons] at h
    exact xor_right (crcByte_inj hx hy (ih (crcByte_lt b hx) (crcByte_lt b hy) h))
/-- Rows that differ in one byte have unlike sums. -/
theorem crc_turned (p q : List UInt8) {x y : UInt8} (h : x ≠ y) : crcL (p ++ x :: q) ≠ crcL (p ++ y :: q) := by
  intro e
  have e := xor_right e
  rw [crcRow_append, crcRow_append, crcRow_cons, crcRow_cons] at e
  have hp := crcRow_lt p (c := 4294967295) (by omega)
  have e2 := crcRow_inj q (crcByte_lt x hp) (crcByte_lt y hp) e
  have e3 := xor_left (crcByte_inj hp hp e2)
  exact h (UInt8.toNat_inj.1 e3)

/-! ### Joined by bits -/
theorem half_xor (a b : Nat) : (a ^^^ b) / 2 = a / 2 ^^^ b / 2 := by
  have := Nat.shiftRight_xor_distrib (a := a) (b := b) (i := 1)
  simpa [Nat.shiftRight_succ] using this
theorem mod_xor (a b : Nat) : (a ^^^ b) % 2 = (a % 2 + b % 2) % 2 := by
  have h := Nat.testBit_xor a b 0
  rw [Nat.testBit_zero, Nat.testBit_zero, Nat.testBit_zero] at h
  rcases Nat.mod_two_eq_zero_or_one a with h1 | h1 <;> rcases Nat.mod_two_eq_zero_or_one b with h2 | h2 <;> rcases Nat.mod_two_eq_zero_or_one (a ^^^ b) with h3 | h3 <;> simp [h1, h2, h3] at h ⊢
theorem crcBit_xor (a b : Nat) : crcBit (a ^^^ b) = crcBit a ^^^ crcBit b := by
  have hm := mod_xor a b
  have swap : ∀ x y z : Nat, (x ^^^ z) ^^^ y = (x ^^^ y) ^^^ z := fun x y z => by rw [Nat.xor_assoc, Nat.xor_comm z, ← Nat.xor_assoc]
  rcases Nat.mod_two_eq_zero_or_one a with h1 | h1 <;> rcases Nat.mod_two_eq_zero_or_one b with h2 | h2
  · rw [crcBit_no h1, crcBit_no h2, crcBit_no (by omega), half_xor]
  · rw [crcBit_no h1, crcBit_yes h2, crcBit_yes (by omega), half_xor, Nat.xor_assoc]
  · rw [crcBit_yes h1, crcBit_no h2, crcBit_yes (by omega), half_xor, swap]
  · rw [crcBit_yes h1, crcBit_yes h2, crcBit_no (by omega), half_xor, ← Nat.xor_assoc, swap (a / 2), Nat.xor_assoc, Nat.xor_assoc, Nat.xor_self, Nat.xor_zero]
theorem crcBits_xor (k : Nat) : ∀ a b : Nat, crcBits k (a ^^^ b) = crcBits k a ^^^ crcBits k b := by
  induction k with
  | zero => intro a b; rw [crcBits_zero, crcBits_zero, crcBits_zero]
  | succ k ih => intro a b; rw [crcBits_succ, crcBits_succ, crcBits_succ, crcBit_xor, ih]
theorem xor_four (a b x y : Nat) : (a ^^^ b) ^^^ (x ^^^ y) = (a ^^^ x) ^^^ (b ^^^ y) := by
  rw [Nat.xor_assoc, ← Nat.xor_assoc b, Nat.xor_comm b x, Nat.xor_assoc x, ← Nat.xor_assoc a]
theorem crcByte_xor (a b x y : Nat) : crcByte (a ^^^ b) (x ^^^ y) = crcByte a x ^^^ crcByte b y := by
  rw [crcByte_def, crcByte_def, crcByte_def, xor_four, crcBits_xor]
/-- Rows joined by bits, byte by byte. -/
def xorL : List UInt8 → List UInt8 → List UInt8
  | x :: l, y :: m => (x ^^^ y) :: xorL l m
  | _, _ => []
theorem crcRow_xor (l : List UInt8) : ∀ (m : List UInt8) (a b : Nat), l.length = m.length → crcRow (a ^^^ b) (xorL l m) = crcRow a l ^^^ crcRow b m := by
  induction l with
  | nil =>
    intro m a b h
    have : m = [] := List.length_eq_zero_iff.1 h.symm
    subst this
    show crcRow (a ^^^ b) [] = _
    rw [crcRow_nil, crcRow_nil, crcRow_nil]
  | cons x l ih =>
    intro m a b h
    cases m with
    | nil => cases h
    | cons y m =>
      show crcRow (a ^^^ b) ((x ^^^ y) :: xorL l m) = _
      rw [crcRow_cons, UInt8.toNat_xor, crcByte_xor, ih m _ _ (by simpa using h), crcRow_cons, crcRow_cons]
theorem xorL_len (l : List UInt8) : ∀ m : List UInt8, l.length = m.length → (xorL l m).length = l.length := by
  induction l with
  | nil => intro m _; rfl
  | cons x l ih =>
    intro m h
    cases m with
    | nil => cases h
    | cons y m => show (xorL l m).length + 1 = l.length + 1; rw [ih m (by simpa using h)]
/-- Of three rows of one length, and the one that all three make together, the sums make nothing together. -/
theorem crc_three (a b c : List UInt8) (h1 : a.length = b.length) (h2 : a.length = c.length) : crcL a ^^^ crcL b ^^^ crcL c = crcL (xorL (xorL a b) c) := by
  have e : crcRow 4294967295 (xorL (xorL a b) c) = crcRow 4294967295 a ^^^ crcRow 4294967295 b ^^^ crcRow 4294967295 c := by
    rw [← crcRow_xor a b _ _ h1, ← crcRow_xor (xorL a b) c _ _ (by rw [xorL_len a b h1, h2])]
    rw [show (4294967295 : Nat) ^^^ 4294967295 ^^^ 4294967295 = 4294967295 by rw [Nat.xor_self, Nat.zero_xor]]
  unfold crcL
  rw [e]
  generalize crcRow 4294967295 a = x
  generalize crcRow 4294967295 b = y
  generalize crcRow 4294967295 c = z
  rw [xor_four x 4294967295 y 4294967295, Nat.xor_self, Nat.xor_zero, ← Nat.xor_assoc]
theorem xorL_get (l : List UInt8) : ∀ (m : List UInt8) (k : Nat), k < l.length → l.length = m.length → (xorL l m).getD k 0 = l.getD k 0 ^^^ m.getD k 0 := by
  induction l with
  | nil => intro m k h; simp at h
  | cons x l ih =>
    intro m k h e
    cases m with
    | nil => cases e
    | cons y m =>
      cases k with
      | zero => rfl
      | succ k => exact ih m k (by simpa using h) (by simpa using e)

/-! ### The sum's four bytes -/
def crcBytes (c : Nat) : List UInt8 := [UInt8.ofNat (c % 256), UInt8.ofNat (c / 256 % 256), UInt8.ofNat (c / 65536 % 256), UInt8.ofNat (c / 16777216 % 256)]
def four (x y z t : UInt8) : Nat := x.toNat + 256 * y.toNat + 65536 * z.toNat + 16777216 * t.toNat
theorem four_lt (x y z t : UInt8) : four x y z t < 4294967296 := by
  have := x.toNat_lt; have := y.toNat_lt; have := z.toNat_lt; have := t.toNat_lt
  unfold four; omega
theorem byte_nat (k : Nat) : (UInt8.ofNat (k % 256)).toNat = k % 256 := by simp
theorem four_of {c : Nat} (h : c < 4294967296) : four (UInt8.ofNat (c % 256)) (UInt8.ofNat (c / 256 % 256)) (UInt8.ofNat (c / 65536 % 256)) (UInt8.ofNat (c / 16777216 % 256)) = c := by
  unfold four; rw [byte_nat, byte_nat, byte_nat, byte_nat]; omega
theorem four_back (x y z t : UInt8) : crcBytes (four x y z t) = [x, y, z, t] := by
  have h1 := x.toNat_lt; have h2 := y.toNat_lt; have h3 := z.toNat_lt; have h4 := t.toNat_lt
  have e : ∀ (u : UInt8) (k : Nat), k = u.toNat → UInt8.ofNat k = u := fun u k h => by rw [h, UInt8.ofNat_toNat]
  unfold crcBytes four
  rw [e x _ (by omega), e y _ (by omega), e z _ (by omega), e t _ (by omega)]
end Go.Proofs.YtjhfgajhmenboaaDoor
