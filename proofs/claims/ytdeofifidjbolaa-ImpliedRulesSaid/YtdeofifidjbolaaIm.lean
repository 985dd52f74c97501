/-
  Implied quotes: plain lists, nothing of the program.
-/
import Derived.Test.YtdeofifidjbolaaGaBase
import Derived.Test.YtdeofifidjbolaaGbRef
namespace Go.Proofs.Ytdeofifidjbolaa
open Go.RowKit
set_option linter.unusedVariables false
set_option linter.unusedSimpArgs false

/-- The best prices of an instrument, Buy's first. -/
structure Tp where
  h0 : Bool
  h1 : Bool
  p0 : Int
  p1 : Int
  q0 : Int
  q1 : Int
/-- A quote: its price and quantity, its two legs. -/
structure Qt where
  p : Int
  n : Int
  i1 : Int
  s1 : Int
  i2 : Int
  s2 : Int
def fTp : Fmt Tp := ⟨fun x => [.bool x.h0, .bool x.h1, .int .i64 x.p0, .int .i64 x.p1, .int .i64 x.q0, .int .i64 x.q1], 6, fun _ => rfl, by decide, fun x u hu => by
  simp only [List.mem_cons, List.not_mem_nil, or_false] at hu
  rcases hu with rfl | rfl | rfl | rfl | rfl | rfl <;> rfl⟩
def fQt : Fmt Qt := ⟨fun x => [.int .i64 x.p, .int .i64 x.n, .int .i64 x.i1, .int .i64 x.s1, .int .i64 x.i2, .int .i64 x.s2], 6, fun _ => rfl, by decide, fun x u hu => by
  simp only [List.mem_cons, List.not_mem_nil, or_false] at hu
  rcases hu with rfl | rfl | rfl | rfl | rfl | rfl <;> rfl⟩
theorem HV.atT {w : World} {A : Option Addr} {n : Nat} {l : List Tp} (h : HV fTp w A n l) {j : Nat} {x : Tp} (hx : l[j]? = some x) : ∃ b off, A = some ⟨b, off, none⟩ ∧ w.cell? ⟨b, off + j * 6, none⟩ = some (.bool x.h0) ∧ w.cell? ⟨b, off + j * 6 + 1, none⟩ = some (.bool x.h1) ∧ w.cell? ⟨b, off + j * 6 + 2, none⟩ = some (.int .i64 x.p0) ∧ w.cell? ⟨b, off + j * 6 + 3, none⟩ = some (.int .i64 x.p1) ∧ w.cell? ⟨b, off + j * 6 + 4, none⟩ = some (.int .i64 x.q0) ∧ w.cell? ⟨b, off + j * 6 + 5, none⟩ = some (.int .i64 x.q1) := by
  obtain ⟨b, off, e, hc⟩ := h.2 j x hx
  exact ⟨b, off, e, hc 0 _ rfl, hc 1 _ rfl, hc 2 _ rfl, hc 3 _ rfl, hc 4 _ rfl, hc 5 _ rfl⟩
theorem HV.atQ {w : World} {A : Option Addr} {n : Nat} {l : List Qt} (h : HV fQt w A n l) {j : Nat} {x : Qt} (hx : l[j]? = some x) : ∃ b off, A = some ⟨b, off, none⟩ ∧ w.cell? ⟨b, off + j * 6, none⟩ = some (.int .i64 x.p) ∧ w.cell? ⟨b, off + j * 6 + 1, none⟩ = some (.int .i64 x.n) ∧ w.cell? ⟨b, off + j * 6 + 2, none⟩ = some (.int .i64 x.i1) ∧ w.cell? ⟨b, off + j * 6 + 3, none⟩ = some (.int .i64 x.s1) ∧ w.cell? ⟨b, off + j * 6 + 4, none⟩ = some (.int .i64 x.i2) ∧ w.cell? ⟨b, off + j * 6 + 5, none⟩ = some (.int .i64 x.s2) := by
  obtain ⟨b, off, e, hc⟩ := h.2 j x hx
  exact ⟨b, off, e, hc 0 _ rfl, hc 1 _ rfl, hc 2 _ rfl, hc 3 _ rfl, hc 4 _ rfl, hc 5 _ rfl⟩
structure Tp.Ok (x : Tp) : Prop where
  p0 : I64 x.p0
  p1 : I64 x.p1
  q0 : I64 x.q0
  q1 : I64 x.q1
structure Qt.Ok (x : Qt) : Prop where
  p : I64 x.p
  n : I64 x.n
  i1 : I64 x.i1
  s1 : I64 x.s1
  i2 : I64 x.i2
  s2 : I64 x.s2
def OkT (L : List Tp) : Prop := ∀ x ∈ L, x.Ok
def OkQ (L : List Qt) : Prop := ∀ x ∈ L, x.Ok
/-- What a top tells of a side: is there one, its price, its quantity. -/
def Tp.has (x : Tp) (s : Int) : Bool := if s = 1 then x.h0 else x.h1
def Tp.price (x : Tp) (s : Int) : Int := if s = 1 then x.p0 else x.p1
def Tp.qty (x : Tp) (s : Int) : Int := if s = 1 then x.q0 else x.q1
instance : Inhabited Tp := ⟨⟨false, false, 0, 0, 0, 0⟩⟩
instance : Inhabited Qt := ⟨⟨0, 0, 0, 0, 0, 0⟩⟩
def topAt (T : List Tp) (i : Int) : Tp := T.getD i.toNat default
/-- The price of two legs: the sum (1), the second's less the first's (0), the first's less the second's (-1). -/
def legPrice (u v : Int) (how : Int) : Int := if how = 0 then v - u else if how = -1 then u - v else u + v
instance (x : Int) : Decidable (I64 x) := by unfold I64; infer_instance
/-- A quote of two legs, if there is one. -/
def joinO (x y : Tp) (a sa b sb how : Int) : Option Qt :=
  if x.has sa = true ∧ y.has sb = true ∧ I64 (legPrice (x.price sa) (y.price sb) how) then some ⟨legPrice (x.price sa) (y.price sb) how, min (x.qty sa) (y.qty sb), a, sa, b, sb⟩ else none
def joinQ (T : List Tp) (a sa b sb how : Int) : List Qt := (joinO (topAt T a) (topAt T b) a sa b sb how).toList
/-- The quotes with later months, from month m on (d of them); with earlier ones. -/
def laterQ (p : PD) (T : List Tp) (inst side : Int) : Nat → Int → List Qt
  | 0, _ => []
  | d + 1, m => joinQ T (spreadI p inst m).1 side m side 1 ++ laterQ p T inst side d (m + 1)
def earlierQ (p : PD) (T : List Tp) (inst side : Int) : Nat → Int → List Qt
  | 0, _ => []
  | d + 1, m => joinQ T (spreadI p m inst).1 (3 - side) m side 0 ++ earlierQ p T inst side d (m + 1)
/-- Are there quotes at all? -/
def askB (p : PD) (n : Nat) (inst side : Int) : Bool := decide (chk p = 0) && decide (n = cntL p) && decide (0 ≤ inst) && decide (inst < n) && (decide (side = 1) || decide (side = 2))
def allQ (p : PD) (T : List Tp) (inst side : Int) : List Qt :=
  if askB p T.length inst side = true then
    (if (legsL p inst).2.2 = true then joinQ T (legsL p inst).1 side (legsL p inst).2.1 (3 - side) (-1)
      else laterQ p T inst side (p.n1 - (inst.toNat + 1)) (inst + 1) ++ earlierQ p T inst side inst.toNat 0)
  else []
def quotesQ (p : PD) (T : List Tp) (inst side : Int) : List Qt := (allQ p T inst side).filter (fun q => decide (priceL p inst q.p = 0))
/-- a is better than b on side s. -/
def betS (s a b : Int) : Bool := if s = 1 then decide (b < a) else decide (a < b)
def bestFrom (s : Int) (x : Qt) : List Qt → Qt
  | [] => x
  | y :: l => bestFrom s (if betS s y.p x.p = true then y else x) l
def bestQ (l : List Qt) (s : Int) : Option Qt := match l with
  | [] => none
  | x :: l => some (bestFrom s x l)
/-- The greatest quantity of those of a price, from q on; how many they are. -/
def mostQ (pr : Int) (q : Int) : List Qt → Int
  | [] => q
  | y :: l => mostQ pr (if y.p = pr ∧ q < y.n then y.n else q) l
def countQ (pr : Int) : List Qt → Nat
  | [] => 0
  | y :: l => (if y.p = pr then 1 else 0) + countQ pr l
theorem joinO_case (x y : Tp) (a sa b sb how : Int) : (joinO x y a sa b sb how = none ∧ ¬ (x.has sa = true ∧ y.has sb = true ∧ I64 (legPrice (x.price sa) (y.price sb) how))) ∨
    (joinO x y a sa b sb how = some ⟨legPrice (x.price sa) (y.price sb) how, min (x.qty sa) (y.qty sb), a, sa, b, sb⟩ ∧ x.has sa = true ∧ y.has sb = true ∧ I64 (legPrice (x.price sa) (y.price sb) how)) := by
  unfold joinO
  by_cases h : x.has sa = true ∧ y.has sb = true ∧ I64 (legPrice (x.price sa) (y.price sb) how)
  · rw [if_pos h]; exact .inr ⟨rfl, h⟩
  · rw [if_neg h]; exact .inl ⟨rfl, h⟩
theorem joinQ_len (T : List Tp) (a sa b sb how : Int) : (joinQ T a sa b sb how).length ≤ 1 := by
  unfold joinQ
  cases joinO (topAt T a) (topAt T b) a sa b sb how <;> simp
theorem topAt_mem {T : List Tp} {i : Int} (h0 : 0 ≤ i) (h1 : i < T.length) : T[i.toNat]? = some (topAt T i) := by
  have h : i.toNat < T.length := by omega
  unfold topAt
  rw [List.getD_eq_getElem?_getD, List.getElem?_eq_getElem h]; rfl
theorem Tp.Ok.priceS {x : Tp} (h : x.Ok) (s : Int) : I64 (x.price s) := by 
  unfold Tp.price; split
  · exact h.p0
  · exact h.p1
theorem Tp.Ok.qtyS {x : Tp} (h : x.Ok) (s : Int) : I64 (x.qty s) := by 
  unfold Tp.qty; split
  · exact h.q0
  · exact h.q1
theorem min_I64 {a b : Int} (h : I64 a) (k : I64 b) : I64 (min a b) := ⟨by have := h.1; have := k.1; omega, by have := h.2; omega⟩
theorem topAt_ok {T : List Tp} (h : OkT T) (i : Int) : (topAt T i).Ok := by
  unfold topAt
  rw [List.getD_eq_getElem?_getD]
  cases e : T[i.toNat]? with
  | none => exact ⟨⟨by decide, by decide⟩, ⟨by decide, by decide⟩, ⟨by decide, by decide⟩, ⟨by decide, by decide⟩⟩
  | some x => exact h x (List.mem_of_getElem? e)
theorem joinQ_ok {T : List Tp} (h : OkT T) {a sa b sb : Int} (how : Int) (ha : I64 a) (hsa : I64 sa) (hb : I64 b) (hsb : I64 sb) : OkQ (joinQ T a sa b sb how) := fun y hy => by
  unfold joinQ at hy
  rcases joinO_case (topAt T a) (topAt T b) a sa b sb how with ⟨e, _⟩ | ⟨e, _, _, hI⟩
  · rw [e] at hy; cases hy
  · rw [e] at hy
    simp only [Option.toList_some, List.mem_cons, List.not_mem_nil, or_false] at hy
    subst hy
    exact ⟨hI, min_I64 ((topAt_ok h a).qtyS sa) ((topAt_ok h b).qtyS sb), ha, hsa, hb, hsb⟩
theorem laterQ_len (p : PD) (T : List Tp) (inst side : Int) (d : Nat) (m : Int) : (laterQ p T inst side d m).length ≤ d := by
  induction d generalizing m with
  | zero => exact Nat.le_refl _
  | succ d ih =>
    have := ih (m + 1)
    have := joinQ_len T (spreadI p inst m).1 side m side 1
    rw [laterQ, List.length_append]; omega
theorem earlierQ_len (p : PD) (T : List Tp) (inst side : Int) (d : Nat) (m : Int) : (earlierQ p T inst side d m).length ≤ d := by
  induction d generalizing m with
  | zero => exact Nat.le_refl _
  | succ d ih =>
    have := ih (m + 1)
    have := joinQ_len T (spreadI p m inst).1 (3 - side) m side 0
    rw [earlierQ, List.length_append]; omega
/-- The quotes with later months, one more at the end. -/
theorem laterQ_snoc (p : PD) (T : List Tp) (inst side : Int) (d : Nat) (m : Int) : laterQ p T inst side (d + 1) m = laterQ p T inst side d m ++ joinQ T (spreadI p inst (m + d)).1 side (m + d) side 1 := by
  induction d generalizing m with
  | zero => simp [laterQ]
  | succ d ih =>
    rw [laterQ, ih (m + 1), laterQ, List.append_assoc, show m + 1 + (d : Int) = m + ((d + 1 : Nat) : Int) by omega]
theorem earlierQ_snoc (p : PD) (T : List Tp) (inst side : Int) (d : Nat) (m : Int) : earlierQ p T inst side (d + 1) m = earlierQ p T inst side d m ++ joinQ T (spreadI p (m + d) inst).1 (3 - side) (m + d) side 0 := by
  induction d generalizing m with
  | zero => simp [earlierQ]
  | succ d ih =>
    rw [earlierQ, ih (m + 1), earlierQ, List.append_assoc, show m + 1 + (d : Int) = m + ((d + 1 : Nat) : Int) by omega]
theorem askB_iff (p : PD) (n : Nat) (inst side : Int) : askB p n inst side = true ↔ (chk p = 0 ∧ n = cntL p ∧ 0 ≤ inst ∧ inst < n ∧ (side = 1 ∨ side = 2)) := by
  unfold askB
  simp only [Bool.and_eq_true, Bool.or_eq_true, decide_eq_true_eq]
  constructor
  · rintro ⟨⟨⟨⟨a, b⟩, c⟩, d⟩, e⟩; exact ⟨a, b, c, d, e⟩
  · rintro ⟨a, b, c, d, e⟩; exact ⟨⟨⟨⟨a, b⟩, c⟩, d⟩, e⟩
theorem bestFrom_mem (s : Int) (x : Qt) (l : List Qt) : bestFrom s x l = x ∨ bestFrom s x l ∈ l := by
  induction l generalizing x with
  | nil => exact .inl rfl
  | cons y l ih =>
    rw [bestFrom]
    rcases ih (if betS s y.p x.p = true then y else x) with h | h
    · rw [h]
      by_cases c : betS s y.p x.p = true
      · rw [if_pos c]; exact .inr (by simp)
      · rw [if_neg c]; exact .inl rfl
    · exact .inr (by simp [h])
end Go.Proofs.Ytdeofifidjbolaa
