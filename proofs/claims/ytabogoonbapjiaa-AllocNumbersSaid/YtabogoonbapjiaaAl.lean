/-
  Shares by the rule of a product: plain lists of orders, nothing of the program.
-/
import Derived.Test.YtabogoonbapjiaaRowsG
import Derived.Test.YtabogoonbapjiaaSp
import Derived.Test.YtabogoonbapjiaaFiSizes
namespace Go.Proofs.Ytabogoonbapjiaa
open Go.RowKit
set_option linter.unusedVariables false
set_option linter.unusedSimpArgs false

/-- The quantities of orders. -/
def qtys (L : List Or) : List Int := L.map Or.n
theorem qtys_len (L : List Or) : (qtys L).length = L.length := by simp [qtys]
theorem qtys_get {L : List Or} {k : Nat} {x : Or} (h : L[k]? = some x) : (qtys L).getD k 0 = x.n := by simp [qtys, List.getD, h]
theorem qtys_take (L : List Or) (k : Nat) : qtys (L.take k) = (qtys L).take k := by simp [qtys]
theorem or_at {L : List Or} {k : Nat} (h : k < L.length) : ∃ x, L[k]? = some x := ⟨_, List.getElem?_eq_getElem h⟩
theorem or_next {L : List Or} {k : Nat} {x : Or} (h : L[k]? = some x) : L.take (k + 1) = L.take k ++ [x] := by rw [List.take_add_one, h]; rfl
theorem or_lt {L : List Or} {k : Nat} {x : Or} (h : L[k]? = some x) : k < L.length := (List.getElem?_eq_some_iff.1 h).1
/-- All that an order holds are numbers of 64 bits. -/
structure Or.Ok (x : Or) : Prop where
  i : I64 x.i
  s : I64 x.s
  p : I64 x.p
  n : I64 x.n
def OkO (L : List Or) : Prop := ∀ x ∈ L, x.Ok
theorem OkO.at' {L : List Or} (h : OkO L) {k : Nat} {x : Or} (hx : L[k]? = some x) : x.Ok := h x (List.mem_of_getElem? hx)
theorem OkO.take {L : List Or} (h : OkO L) (k : Nat) : OkO (L.take k) := fun x hx => h x (List.mem_of_mem_take hx)
theorem OkO.nums {L : List Or} (h : OkO L) : ∀ x ∈ qtys L, I64 x := fun x hx => by
  obtain ⟨y, hy, rfl⟩ := List.mem_map.1 hx
  exact (h y hy).n
/-- The first order that is a top one, or -1. -/
def topO (L : List Or) : Int := match L.findIdx? (fun x => x.t) with
  | some k => (k : Int)
  | none => -1
theorem topO_nil : topO [] = -1 := rfl
theorem topO_snoc (M : List Or) (x : Or) : topO (M ++ [x]) = if topO M < 0 then (if x.t = true then (M.length : Int) else -1) else topO M := by
  unfold topO
  rw [List.findIdx?_append]
  cases h : M.findIdx? (fun x => x.t) with
  | some k =>
    rw [if_neg (by show ¬ (k : Int) < 0; omega)]
    rfl
  | none =>
    rw [if_pos (by decide)]
    cases e : x.t with
    | true => simp [e]
    | false => simp [e]
theorem topO_range (L : List Or) : -1 ≤ topO L ∧ topO L ≤ (L.length : Int) := by
  unfold topO
  cases h : L.findIdx? (fun x => x.t) with
  | none => exact ⟨by decide, by show (-1 : Int) ≤ _; omega⟩
  | some k =>
    have := (List.findIdx?_eq_some_iff_getElem.1 h).1
    exact ⟨by show -1 ≤ (k : Int); omega, by show (k : Int) ≤ _; omega⟩
/-- The first that is one, as it is met. -/
theorem topO_at {L : List Or} {k : Nat} {x : Or} (h : topO (L.take k) = -1) (hx : L[k]? = some x) (ht : x.t = true) : topO L = (k : Int) := by
  have hk := or_lt hx
  have e1 : topO (L.take (k + 1)) = (k : Int) := by
    rw [or_next hx, topO_snoc, h, if_pos (by decide), if_pos ht, List.length_take, Nat.min_eq_left (by omega)]
  have more : ∀ (R M : List Or), 0 ≤ topO M → topO (M ++ R) = topO M := by
    intro R
    induction R with
    | nil => intro M _; rw [List.append_nil]
    | cons y R ih =>
      intro M hM
      have e : topO (M ++ [y]) = topO M := by rw [topO_snoc, if_neg (by omega)]
      rw [show M ++ y :: R = (M ++ [y]) ++ R by simp, ih (M ++ [y]) (by omega), e]
  rw [← List.take_append_drop (k + 1) L, more _ _ (by omega), e1]
theorem topO_step {L : List Or} {k : Nat} {x : Or} (hx : L[k]? = some x) : topO (L.take (k + 1)) = if topO (L.take k) < 0 then (if x.t = true then (k : Int) else -1) else topO (L.take k) := by
  rw [or_next hx, topO_snoc, List.length_take, Nat.min_eq_left (by have := or_lt hx; omega)]
/-- Shares by a product's rule. -/
def allocL (rule top least part : Int) (L : List Or) (q : Int) : List Int :=
  if rule = 1 then shareL (qtys L) q else if rule = 2 then topL (qtys L) (topO L) top least q else if rule = 3 then splitL (qtys L) part least q else []
theorem alloc_first {rule top least part : Int} {L : List Or} {q : Int} (h : rule = 1) : allocL rule top least part L q = shareL (qtys L) q := if_pos h
theorem alloc_share {rule top least part : Int} {L : List Or} {q : Int} (h : rule = 2) : allocL rule top least part L q = topL (qtys L) (topO L) top least q := by
  unfold allocL; rw [if_neg (by omega), if_pos h]
theorem alloc_mixed {rule top least part : Int} {L : List Or} {q : Int} (h : rule = 3) : allocL rule top least part L q = splitL (qtys L) part least q := by
  unfold allocL; rw [if_neg (by omega), if_neg (by omega), if_pos h]
theorem alloc_no {rule top least part : Int} {L : List Or} {q : Int} (h1 : rule ≠ 1) (h2 : rule ≠ 2) (h3 : rule ≠ 3) : allocL rule top least part L q = [] := by
  unfold allocL; rw [if_neg h1, if_neg h2, if_neg h3]
theorem alloc_cases (rule top least part : Int) (L : List Or) (q : Int) : (allocL rule top least part L q).length ≤ 250 ∧ ∀ y ∈ allocL rule top least part L q, I64 y := by
  unfold allocL
  split
  · exact ⟨share_len _ _, share_I64 _ _⟩
  · split
    · exact ⟨top_few _ _ _ _ _, small_of (top_mem _ _ _ _ _)⟩
    · split
      · exact ⟨split_few _ _ _ _, small_of (split_mem _ _ _ _)⟩
      · exact ⟨by simp, fun y hy => by cases hy⟩
/-- By rule, what is asked of an order beside its quantity is whether it is the top. -/
theorem alloc_same {L M : List Or} (rule top least part q : Int) (hn : qtys M = qtys L) (ht : topO M = topO L) : allocL rule top least part M q = allocL rule top least part L q := by
  unfold allocL; rw [hn, ht]
theorem alloc_bad {rule top least part : Int} {L : List Or} {q : Int} (h : rightL (qtys L) q = false) : allocL rule top least part L q = [] := by
  unfold allocL
  split
  · exact share_no h
  · split
    · exact top_no (by rw [h]; rfl)
    · split
      · exact split_no (by rw [h]; rfl)
      · rfl
theorem alloc_right {rule top least part : Int} {L : List Or} {q : Int} (hR : rightL (qtys L) q = true) (r1 : 1 ≤ rule) (r2 : rule ≤ 3) (ho : 0 ≤ top) (hm : 1 ≤ least) (hp : 0 ≤ part) (hp2 : part ≤ 100) :
    (allocL rule top least part L q).length = L.length ∧ sumL (allocL rule top least part L q) = q ∧ ∀ k, k < L.length → 0 ≤ (allocL rule top least part L q).getD k 0 ∧ (allocL rule top least part L q).getD k 0 ≤ (qtys L).getD k 0 := by
  obtain ⟨_, hx, hq, hs⟩ := (right_iff _ _).1 hR
  have h0 : ∀ x ∈ qtys L, 0 ≤ x := fun x h => by have := hx x h; omega
  have hl := qtys_len L
  rcases (show rule = 1 ∨ rule = 2 ∨ rule = 3 by omega) with h | h | h
  · rw [alloc_first h, share_yes hR]
    exact ⟨by rw [fill_len, hl], fill_all _ _ h0 hq hs, fun k hk => fillF_fit h0 hq (by omega)⟩
  · rw [alloc_share h, top_yes hR hm ho]
    refine ⟨by rw [topB_len, hl], topB_sum h0 hq hs ho, fun k hk => ?_⟩
    have a := topB_fit (top := topO L) (most := top) (least := least) h0 hq hs ho (k := k) (by omega)
    have b := first_fit (top := topO L) (most := top) h0 hq ho (k := k) (by omega)
    omega
  · rw [alloc_mixed h, split_yes hR hp hp2 hm]
    refine ⟨by rw [splitB_len, hl], splitB_sum h0 hq hs hp hp2, fun k hk => ?_⟩
    have a := splitB_fit (least := least) h0 hq hs hp hp2 (k := k) (by omega)
    have b := fillF_fit (k := k) h0 (early_fit hp hp2 hq).1 (by omega)
    omega
theorem alloc_all {rule top least part : Int} {L : List Or} (hR : rightL (qtys L) (sumL (qtys L)) = true) (r1 : 1 ≤ rule) (r2 : rule ≤ 3) (ho : 0 ≤ top) (hm : 1 ≤ least) (hp : 0 ≤ part) (hp2 : part ≤ 100) :
    allocL rule top least part L (sumL (qtys L)) = qtys L := by
  obtain ⟨a, b, c⟩ := alloc_right hR r1 r2 ho hm hp hp2
  have hl := qtys_len L
  exact full_of (by rw [a, hl]) (fun i hi => (c i (by omega)).2) b
theorem alloc_none {rule top least part : Int} {L : List Or} (hR : rightL (qtys L) 0 = true) (r1 : 1 ≤ rule) (r2 : rule ≤ 3) (ho : 0 ≤ top) (hm : 1 ≤ least) (hp : 0 ≤ part) (hp2 : part ≤ 100) :
    allocL rule top least part L 0 = List.replicate L.length 0 := by
  obtain ⟨a, b, c⟩ := alloc_right hR r1 r2 ho hm hp hp2
  have := zeros_of (m := allocL rule top least part L 0) (fun x hx => by
    obtain ⟨i, hi, rfl⟩ := mem_getD hx
    exact (c i (by omega)).1) b
  rw [a] at this
  exact this
/-- The law's own orders: right ones, of the first thirty. -/
def someO (L : List Or) : List Or := (L.take 30).map (fun x => { x with n := 1 + (withinN x.n 40 : Int) })
theorem some_len (L : List Or) : (someO L).length = min 30 L.length := by simp [someO]
theorem some_next {L : List Or} {k : Nat} {x : Or} (hx : L[k]? = some x) (h30 : k < 30) : (someO L).take (k + 1) = (someO L).take k ++ [{ x with n := 1 + (withinN x.n 40 : Int) }] := by
  have h : (someO L)[k]? = some { x with n := 1 + (withinN x.n 40 : Int) } := by
    unfold someO
    rw [List.getElem?_map, List.getElem?_take, if_pos h30, hx]; rfl
  exact or_next h
theorem some_n (L : List Or) : ∀ y ∈ qtys (someO L), 1 ≤ y ∧ y ≤ 41 := fun y hy => by
  obtain ⟨z, hz, rfl⟩ := List.mem_map.1 hy
  obtain ⟨x, _, rfl⟩ := List.mem_map.1 hz
  have := withinN_le x.n 40
  show 1 ≤ 1 + (withinN x.n 40 : Int) ∧ _
  exact ⟨by omega, by show 1 + (withinN x.n 40 : Int) ≤ 41; omega⟩
theorem some_ok {L : List Or} (h : OkO L) : OkO (someO L) := fun y hy => by
  obtain ⟨x, hx, rfl⟩ := List.mem_map.1 hy
  have a := h x (List.mem_of_mem_take hx)
  have := withinN_le x.n 40
  exact ⟨a.i, a.s, a.p, ⟨by show -9223372036854775808 ≤ 1 + (withinN x.n 40 : Int); omega, by show 1 + (withinN x.n 40 : Int) ≤ 9223372036854775807; omega⟩⟩
/-- What the laws draw: right orders, and a part of their sum. -/
theorem drawn_orders (L : List Or) (small : Int) : ∃ m k : Nat, sumL (qtys (someO L)) = (m : Int) ∧ withinN small m = k ∧ m ≤ 1230 ∧ k ≤ m ∧ (someO L).length ≤ 30 ∧ rightL (qtys (someO L)) k = true ∧ rightL (qtys (someO L)) m = true ∧ rightL (qtys (someO L)) 0 = true ∧ rightL (qtys (someO L)) (m + 1) = false := by
  have ok := some_n L
  have hl := some_len L
  have hq := qtys_len (someO L)
  obtain ⟨b1, b2⟩ := sumL_bound (qtys (someO L)) 41 (fun x hx => by have := ok x hx; omega)
  have hle := withinN_le small (sumL (qtys (someO L))).toNat
  have ok2 : ∀ x ∈ qtys (someO L), 1 ≤ x ∧ x ≤ 1000000 := fun x hx => by have := ok x hx; omega
  refine ⟨(sumL (qtys (someO L))).toNat, withinN small (sumL (qtys (someO L))).toNat, by omega, rfl, by omega, hle, by omega, (right_iff _ _).2 ⟨by omega, ok2, by omega, by omega⟩, (right_iff _ _).2 ⟨by omega, ok2, by omega, by omega⟩, (right_iff _ _).2 ⟨by omega, ok2, by omega, by omega⟩, right_no (fun h => by have := h.2.2.2; omega)⟩
/-- An order that is called anew, at another price and side. -/
def anew (k : Nat) (x : Or) : Or := { x with i := (k : Int), s := 2, p := -5 }
attribute [irreducible] allocL topO
end Go.Proofs.Ytabogoonbapjiaa
