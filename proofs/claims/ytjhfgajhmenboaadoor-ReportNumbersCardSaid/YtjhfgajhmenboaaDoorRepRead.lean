/-
  What is read of a report; contract: read, of the program.
-/
import Derived.Test.YtjhfgajhmenboaaDoorRep
namespace Go.Proofs.YtjhfgajhmenboaaDoor
open Go.RowKit
set_option linter.unusedVariables false
set_option linter.unusedSimpArgs false

/-- What is read of a report, the place of each part. -/
def dK (l : List UInt8) := rdTake l 0 0 1
def dI (l : List UInt8) := rdTake l (dK l).2.1 (dK l).2.2 8
def dN (l : List UInt8) := rdTake l (dI l).2.1 (dI l).2.2 1
def dS (l : List UInt8) := rdTake l (dN l).2.1 (dN l).2.2 1
def dP (l : List UInt8) := rdTake l (dS l).2.1 (dS l).2.2 8
def dQ (l : List UInt8) := rdTake l (dP l).2.1 (dP l).2.2 8
def dL (l : List UInt8) := rdTake l (dQ l).2.1 (dQ l).2.2 8
def dY (l : List UInt8) := rdTake l (dL l).2.1 (dL l).2.2 1
def readQ (l : List UInt8) : Q := ⟨(headN (dK l).1 : Nat), wrap64 (numL (dI l).1), (headN (dN l).1 : Nat), (headN (dS l).1 : Nat), wrap64 (numL (dP l).1), wrap64 (numL (dQ l).1), wrap64 (numL (dL l).1), (headN (dY l).1 : Nat)⟩
def readP (l : List UInt8) : Nat × Nat := (dY l).2
theorem dK_eq (l : List UInt8) : dK l = rdTake l 0 0 1 := rfl
theorem dI_eq (l : List UInt8) : dI l = rdTake l (dK l).2.1 (dK l).2.2 8 := rfl
theorem dN_eq (l : List UInt8) : dN l = rdTake l (dI l).2.1 (dI l).2.2 1 := rfl
theorem dS_eq (l : List UInt8) : dS l = rdTake l (dN l).2.1 (dN l).2.2 1 := rfl
theorem dP_eq (l : List UInt8) : dP l = rdTake l (dS l).2.1 (dS l).2.2 8 := rfl
theorem dQ_eq (l : List UInt8) : dQ l = rdTake l (dP l).2.1 (dP l).2.2 8 := rfl
theorem dL_eq (l : List UInt8) : dL l = rdTake l (dQ l).2.1 (dQ l).2.2 8 := rfl
theorem dY_eq (l : List UInt8) : dY l = rdTake l (dL l).2.1 (dL l).2.2 1 := rfl
attribute [irreducible] dK dI dN dS dP dQ dL dY
/-- What Decode answers. -/
def decOk (l : List UInt8) : Prop := rdEnd l (readP l).1 (readP l).2 = 0 ∧ (readQ l).Right
instance (l : List UInt8) : Decidable (decOk l) := by unfold decOk; exact inferInstance
def decQ (l : List UInt8) : Q := if decOk l then readQ l else zeroQ
def decE (l : List UInt8) : Nat := if decOk l then 0 else 12
theorem decQ_yes {l : List UInt8} (h : decOk l) : decQ l = readQ l := if_pos h
theorem decQ_no {l : List UInt8} (h : ¬ decOk l) : decQ l = zeroQ := if_neg h
theorem decE_yes {l : List UInt8} (h : decOk l) : decE l = 0 := if_pos h
theorem decE_no {l : List UInt8} (h : ¬ decOk l) : decE l = 12 := if_neg h
theorem head_bound (l : List UInt8) : I64 ((headN l : Nat) : Int) := by
  have := headN_le l
  constructor <;> omega
theorem wrap64_bound (x : Int) : I64 (wrap64 x) := by
  unfold wrap64 I64
  constructor <;> omega
theorem readQ_ok (l : List UInt8) : (readQ l).Ok :=
  ⟨head_bound _, wrap64_bound _, head_bound _, head_bound _, wrap64_bound _, wrap64_bound _, wrap64_bound _, head_bound _⟩
/-- A reading under way: the result in block rb. -/
structure RT (R : Nat → Nat → World → Prop) (c rb k y : Nat) (cs : Array Value) (w0 w : World) : Prop where
  rd : R k y w
  res : w.heap[rb]? = some (.cells cs 25 (0, 0))
  only : Only (fun b => b = c) w0 w
  ne : rb ≠ c
  rw0 : w0.heap.size ≤ rb
theorem RT.read {R : Nat → Nat → World → Prop} {c rb k y k' y' : Nat} {cs : Array Value} {w0 w w' : World} (h : RT R c rb k y cs w0 w) (P : R k' y' w') (G : w.grownBy w' (some c)) : RT R c rb k' y' cs w0 w' := by
  have hr := (Array.getElem?_eq_some_iff.1 h.res).1
  exact ⟨P, (G.block rb hr (fun e => h.ne (by injection e))).trans h.res, h.only.trans ((only_grown G).mono (fun j _ e => by injection e)), h.ne, h.rw0⟩
set_option maxRecDepth 100000 in
set_option maxHeartbeats 1000000 in
theorem PRead_go (c g : Nat) (L : List UInt8) (k i n s p q l y : Int) (a0 b0 a1 b1 a2 b2 a3 b3 a4 b4 a5 b5 a6 b6 a7 b7 a8 b8 : Nat) (w : World) (h : Hid (PR c g L a0 b0 w)) (hg : g ≤ c) (ea0 : Hid (((headN (rdTake L a0 b0 1).1 : Nat) : Int) = k)) (eb0 : Hid ((rdTake L a0 b0 1).2.1 = a1)) (ec0 : Hid ((rdTake L a0 b0 1).2.2 = b1)) (ea1 : Hid ((wrap64 (numL (rdTake L a1 b1 8).1) : Int) = i)) (eb1 : Hid ((rdTake L a1 b1 8).2.1 = a2)) (ec1 : Hid ((rdTake L a1 b1 8).2.2 = b2)) (ea2 : Hid (((headN (rdTake L a2 b2 1).1 : Nat) : Int) = n)) (eb2 : Hid ((rdTake L a2 b2 1).2.1 = a3)) (ec2 : Hid ((rdTake L a2 b2 1).2.2 = b3)) (ea3 : Hid (((headN (rdTake L a3 b3 1).1 : Nat) : Int) = s)) (eb3 : Hid ((rdTake L a3 b3 1).2.1 = a4)) (ec3 : Hid ((rdTake L a3 b3 1).2.2 = b4)) (ea4 : Hid ((wrap64 (numL (rdTake L a4 b4 8).1) : Int) = p)) (eb4 : Hid ((rdTake L a4 b4 8).2.1 = a5)) (ec4 : Hid ((rdTake L a4 b4 8).2.2 = b5)) (ea5 : Hid ((wrap64 (numL (rdTake L a5 b5 8).1) : Int) = q)) (eb5 : Hid ((rdTake L a5 b5 8).2.1 = a6)) (ec5 : Hid ((rdTake L a5 b5 8).2.2 = b6)) (ea6 : Hid ((wrap64 (numL (rdTake L a6 b6 8).1) : Int) = l)) (eb6 : Hid ((rdTake L a6 b6 8).2.1 = a7)) (ec6 : Hid ((rdTake L a6 b6 8).2.2 = b7)) (ea7 : Hid (((headN (rdTake L a7 b7 1).1 : Nat) : Int) = y)) (eb7 : Hid ((rdTake L a7 b7 1).2.1 = a8)) (ec7 : Hid ((rdTake L a7 b7 1).2.2 = b8)) :
    Calls Tryd.prog 37 #[.pointer (some ⟨c, 0, none⟩)] w fun e w' => e = .returned (.agg #[.int .i64 k, .int .i64 i, .int .i64 n, .int .i64 s, .int .i64 p, .int .i64 q, .int .i64 l, .int .i64 y]) ∧ PR c g L a8 b8 w' ∧ Only (fun b => b = c) w w' := by
  have hcw := h.out.lt
  obtain ⟨w0, ew⟩ : ∃ W, w.alloc (.cells #[.int .i64 0, .int .i64 0, .int .i64 0, .int .i64 0, .int .i64 0, .int .i64 0, .int .i64 0, .int .i64 0] 25) = W := ⟨_, rfl⟩
  obtain ⟨rb, erb⟩ : ∃ rb, w.heap.size = rb := ⟨_, rfl⟩
  have R0 : Hid (RT (PR c g L) c rb a0 b0 #[.int .i64 0, .int .i64 0, .int .i64 0, .int .i64 0, .int .i64 0, .int .i64 0, .int .i64 0, .int .i64 0] w w0) := Lib.hid ⟨by rw [← ew]; exact h.out.only (alloc_only w _) (fun e => e) (fun e => e), by rw [← ew, ← erb]; exact heap_alloc_new w _, by rw [← ew]; exact (alloc_only w _).mono (fun _ _ e => e.elim), by omega, by omega⟩
  have hrb : c < rb := by omega
  replace ew := Lib.hid ew
  replace erb := Lib.hid erb
  go_enter Tryd.func37, Tryd.ntmps37
  go_wp2_with fail
  rw [ew.out, erb.out]
  refine (PByte_any c g L a0 b0 w0 (Lib.hid R0.out.rd)).mono ?_
  rintro e w1 ⟨rfl, P, G⟩
  rw [ea0.out]
  rw [eb0.out, ec0.out] at P
  have R1 := Lib.hid (R0.out.read P G)
  clear P G R0
  go_wp2_with fail
  refine (PLong_any c g L a1 b1 w1 (Lib.hid R1.out.rd)).mono ?_
  rintro e w2 ⟨rfl, P, G⟩
  rw [ea1.out]
  rw [eb1.out, ec1.out] at P
  have R2 := Lib.hid (R1.out.read P G)
  clear P G R1
  go_wp2_with fail
  refine (PByte_any c g L a2 b2 w2 (Lib.hid R2.out.rd)).mono ?_
  rintro e w3 ⟨rfl, P, G⟩
  rw [ea2.out]
  rw [eb2.out, ec2.out] at P
  have R3 := Lib.hid (R2.out.read P G)
  clear P G R2
  go_wp2_with fail
  refine (PByte_any c g L a3 b3 w3 (Lib.hid R3.out.rd)).mono ?_
  rintro e w4 ⟨rfl, P, G⟩
  rw [ea3.out]
  rw [eb3.out, ec3.out] at P
  have R4 := Lib.hid (R3.out.read P G)
  clear P G R3
  go_wp2_with fail
  refine (PLong_any c g L a4 b4 w4 (Lib.hid R4.out.rd)).mono ?_
  rintro e w5 ⟨rfl, P, G⟩
  rw [ea4.out]
  rw [eb4.out, ec4.out] at P
  have R5 := Lib.hid (R4.out.read P G)
  clear P G R4
  go_wp2_with fail
  refine (PLong_any c g L a5 b5 w5 (Lib.hid R5.out.rd)).mono ?_
  rintro e w6 ⟨rfl, P, G⟩
  rw [ea5.out]
  rw [eb5.out, ec5.out] at P
  have R6 := Lib.hid (R5.out.read P G)
  clear P G R5
  go_wp2_with fail
  refine (PLong_any c g L a6 b6 w6 (Lib.hid R6.out.rd)).mono ?_
  rintro e w7 ⟨rfl, P, G⟩
  rw [ea6.out]
  rw [eb6.out, ec6.out] at P
  have R7 := Lib.hid (R6.out.read P G)
  clear P G R6
  go_wp2_with fail
  refine (PByte_any c g L a7 b7 w7 (Lib.hid R7.out.rd)).mono ?_
  rintro e w8 ⟨rfl, P, G⟩
  rw [ea7.out]
  rw [eb7.out, ec7.out] at P
  have R8 := Lib.hid (R7.out.read P G)
  clear P G R7
  obtain ⟨fr0, fr1, fr2, fr3, fr4, fr5, fr6, fr7, m0, m1, m2, m3, m4, m5, m6, m7⟩ := block8 R8.out.res
  go_wp2_with fail
  rw [set8 _ _ _ _ _ _ _ _ R8.out.res]
  (try simp only [Exit.inBlock, Exit.then])
  refine bodyPost_ret (results_cell_row rfl _ _ (rb) 25 _ (0, 0) _ rfl (setRow_heap _ _ _ _ _ _ R8.out.res) rfl rfl rfl) rfl ?_
  exact ⟨rfl, (keeps_pr c g L hg).keep _ _ _ _ _ R8.out.rd (setRow_only _ _ _) (fun i e => by rw [e]; exact hrb), R8.out.only.step (setRow_only _ _ _) (fun i hi e => by have := erb.out; omega)⟩
theorem PRead_any (c g : Nat) (l : List UInt8) (w : World) (h : Hid (PR c g l 0 0 w)) (hg : g ≤ c) :
    Calls Tryd.prog 37 #[.pointer (some ⟨c, 0, none⟩)] w fun e w' => e = .returned (readQ l).val ∧ PR c g l (readP l).1 (readP l).2 w' ∧ Only (fun b => b = c) w w' :=
  PRead_go c g l (readQ l).k (readQ l).i (readQ l).n (readQ l).s (readQ l).p (readQ l).q (readQ l).l (readQ l).y 0 0 (dK l).2.1 (dK l).2.2 (dI l).2.1 (dI l).2.2 (dN l).2.1 (dN l).2.2 (dS l).2.1 (dS l).2.2 (dP l).2.1 (dP l).2.2 (dQ l).2.1 (dQ l).2.2 (dL l).2.1 (dL l).2.2 (dY l).2.1 (dY l).2.2 w h hg (Lib.hid (by rw [← dK_eq]; rfl)) (Lib.hid (by rw [← dK_eq])) (Lib.hid (by rw [← dK_eq])) (Lib.hid (by rw [← dI_eq]; rfl)) (Lib.hid (by rw [← dI_eq])) (Lib.hid (by rw [← dI_eq])) (Lib.hid (by rw [← dN_eq]; rfl)) (Lib.hid (by rw [← dN_eq])) (Lib.hid (by rw [← dN_eq])) (Lib.hid (by rw [← dS_eq]; rfl)) (Lib.hid (by rw [← dS_eq])) (Lib.hid (by rw [← dS_eq])) (Lib.hid (by rw [← dP_eq]; rfl)) (Lib.hid (by rw [← dP_eq])) (Lib.hid (by rw [← dP_eq])) (Lib.hid (by rw [← dQ_eq]; rfl)) (Lib.hid (by rw [← dQ_eq])) (Lib.hid (by rw [← dQ_eq])) (Lib.hid (by rw [← dL_eq]; rfl)) (Lib.hid (by rw [← dL_eq])) (Lib.hid (by rw [← dL_eq])) (Lib.hid (by rw [← dY_eq]; rfl)) (Lib.hid (by rw [← dY_eq])) (Lib.hid (by rw [← dY_eq]))
end Go.Proofs.YtjhfgajhmenboaaDoor
