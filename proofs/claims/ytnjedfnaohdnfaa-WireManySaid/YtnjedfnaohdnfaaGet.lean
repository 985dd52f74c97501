/-
  Contract: get, of the law's own package: both readers read the same.
-/
import Derived.Test.YtnjedfnaohdnfaaReader2
namespace Go.Proofs.Ytnjedfnaohdnfaa
open Go.RowKit
set_option linter.unusedVariables false
set_option linter.unusedSimpArgs false

/-- Where both stand behind a call of this kind. -/
def rdStep (l : List UInt8) (k y kind : Nat) : Nat × Nat :=
  if kind = 1 then (rdTake l k y 1).2 else if kind = 2 then (rdTake l k y 8).2 else (rdText l k y).2
/-- Both readers, over the same bytes, at the same place. -/
structure Two (c g c2 : Nat) (A : Option Addr) (n cap : Nat) (l : List UInt8) (k y : Nat) (w : World) : Prop where
  own : PR c g l k y w
  doc : Rd c2 A n cap l k y w
  ne : c ≠ c2
  neg : g ≠ c2
  far : ∀ b off sp, A = some ⟨b, off, sp⟩ → b ≠ c
theorem Rd.only {p : Nat → Prop} {c : Nat} {A : Option Addr} {n cap : Nat} {l : List UInt8} {k y : Nat} {w w' : World} (h : Rd c A n cap l k y w) (ho : Only p w w') (hc : ¬ p c) (hA : ∀ b off sp, A = some ⟨b, off, sp⟩ → ¬ p b) : Rd c A n cap l k y w' :=
  ⟨(ho.block c h.at'.lt hc).trans h.at', h.hb.only ho hA, h.far, h.kn, h.ncap, h.cmax, h.nmax, h.none0, h.plain⟩
theorem Two.byOwn {c g c2 : Nat} {A : Option Addr} {n cap : Nat} {l : List UInt8} {k y k' y' : Nat} {w w' : World} (h : Two c g c2 A n cap l k y w) (h' : PR c g l k' y' w') (hg : w.grownBy w' (some c)) : Rd c2 A n cap l k y w' :=
  h.doc.only (only_grown hg) (fun e => h.ne (by injection e with e; exact e.symm)) (fun b off sp e e2 => h.far b off sp e (by injection e2))
theorem Two.byDoc {c g c2 : Nat} {A : Option Addr} {n cap : Nat} {l : List UInt8} {k' y' k0 y0 : Nat} {w0 w w' : World} (h : Two c g c2 A n cap l k0 y0 w0) (h1 : PR c g l k' y' w) (h2 : Rd c2 A n cap l k' y' w') (hg : w.grownBy w' (some c2)) : Two c g c2 A n cap l k' y' w' :=
  ⟨h1.only (only_grown hg) (fun e => h.ne (by injection e)) (fun e => h.neg (by injection e)), h2, h.ne, h.neg, h.far⟩
def pq (c c2 : Nat) : Nat → Prop := fun k => k = c ∨ k = c2
theorem pq_both {c c2 : Nat} {w w1 w2 : World} (h1 : w.grownBy w1 (some c)) (h2 : w1.grownBy w2 (some c2)) : Only (pq c c2) w w2 :=
  (Only.mono (only_grown h1) (fun k _ e => .inl (by injection e))).step (only_grown h2) (fun k _ e => .inr (by injection e))
theorem Two.drewN {c g c2 : Nat} {A : Option Addr} {n cap : Nat} {l : List UInt8} {k y : Nat} {w : World} (h : Two c g c2 A n cap l k y w) (q : Nat) : Two c g c2 A n cap l k y (w.drewN q) :=
  ⟨h.own.drewN q, ⟨h.doc.at', h.doc.hb, h.doc.far, h.doc.kn, h.doc.ncap, h.doc.cmax, h.doc.nmax, h.doc.none0, h.doc.plain⟩, h.ne, h.neg, h.far⟩

set_option maxRecDepth 100000 in
set_option maxHeartbeats 1000000 in
theorem Get_one (c g c2 : Nat) (A : Option Addr) (n cap : Nat) (l : List UInt8) (k y : Nat) (w : World) (h : Hid (Two c g c2 A n cap l k y w)) :
    Calls Try.prog 12 #[.pointer (some ⟨c, 0, none⟩), .pointer (some ⟨c2, 0, none⟩), .int .i64 1] w fun e w' => e = .returned (.bool true) ∧ Two c g c2 A n cap l (rdTake l k y 1).2.1 (rdTake l k y 1).2.2 w' ∧ Only (pq c c2) w w' := by
  have hP := PByte_any c g l k y w (Lib.hid h.out.own)
  have hR := fun W (H : Hid (Rd c2 A n cap l k y W)) => RByte_any c2 A n cap l k y W H
  obtain ⟨x, ex⟩ : ∃ x, headN (rdTake l k y 1).1 = x := ⟨_, rfl⟩
  obtain ⟨k', ek⟩ : ∃ k', (rdTake l k y 1).2.1 = k' := ⟨_, rfl⟩
  obtain ⟨y', ey⟩ : ∃ y', (rdTake l k y 1).2.2 = y' := ⟨_, rfl⟩
  rw [ex, ek, ey] at hP hR
  rw [ek, ey]
  clear ex ek ey
  have hP := Lib.hid hP
  have i1 : ((x : Int) == (x : Int)) = true := by simp
  go_enter Try.func12, Try.ntmps12
  go_wp2_with fail
  refine hP.out.mono ?_
  rintro e w1 ⟨rfl, P1, G1⟩
  have D1 := Lib.hid (h.out.byOwn P1 G1)
  have P1 := Lib.hid P1
  have G1 := Lib.hid G1
  go_wp2_with fail
  refine (hR _ D1).mono ?_
  rintro e w2 ⟨rfl, R2, G2⟩
  have T2 := Lib.hid (h.out.byDoc P1.out R2 G2)
  have O2 := Lib.hid (pq_both G1.out G2)
  clear R2 G2
  have hE := Lib.hid (PEnd_any c g l k' y' w2 (Lib.hid T2.out.own))
  have hy : y' ≤ 1000 := by rcases T2.out.own.num with e | e <;> omega
  have hD := Lib.hid (REnd_any c2 A n cap l k' y' w2 (Lib.hid T2.out.doc) hy)
  obtain ⟨z, ez⟩ : ∃ z, rdEnd l k' y' = z := ⟨_, rfl⟩
  rw [ez] at hE hD
  have i2 : ((z : Int) == (z : Int)) = true := by simp
  clear ez
  go_wp2_with fail
  refine hE.out.mono ?_
  rintro e w3 ⟨rfl, rfl⟩
  go_wp2_with fail
  refine hD.out.mono ?_
  rintro e w3 ⟨rfl, q, rfl⟩
  have T3 := Lib.hid (T2.out.drewN q)
  have O3 := Lib.hid (O2.out.drewN q)
  go_wp2_with fail
  go_ret
  exact ⟨rfl, T3.out, O3.out⟩

set_option maxRecDepth 100000 in
set_option maxHeartbeats 1000000 in
theorem Get_two (c g c2 : Nat) (A : Option Addr) (n cap : Nat) (l : List UInt8) (k y : Nat) (w : World) (h : Hid (Two c g c2 A n cap l k y w)) :
    Calls Try.prog 12 #[.pointer (some ⟨c, 0, none⟩), .pointer (some ⟨c2, 0, none⟩), .int .i64 2] w fun e w' => e = .returned (.bool true) ∧ Two c g c2 A n cap l (rdTake l k y 8).2.1 (rdTake l k y 8).2.2 w' ∧ Only (pq c c2) w w' := by
  have hP := PLong_any c g l k y w (Lib.hid h.out.own)
  have hR := fun W (H : Hid (Rd c2 A n cap l k y W)) => RLong_any c2 A n cap l k y W H
  obtain ⟨x, ex⟩ : ∃ x, wrap64 (numL (rdTake l k y 8).1) = x := ⟨_, rfl⟩
  obtain ⟨k', ek⟩ : ∃ k', (rdTake l k y 8).2.1 = k' := ⟨_, rfl⟩
  obtain ⟨y', ey⟩ : ∃ y', (rdTake l k y 8).2.2 = y' := ⟨_, rfl⟩
  rw [ex, ek, ey] at hP hR
  rw [ek, ey]
  clear ex ek ey
  have hP := Lib.hid hP
  have i1 : (x == x) = true := by simp
  go_enter Try.func12, Try.ntmps12
  go_wp2_with fail
  refine hP.out.mono ?_
  rintro e w1 ⟨rfl, P1, G1⟩
  have D1 := Lib.hid (h.out.byOwn P1 G1)
  have P1 := Lib.hid P1
  have G1 := Lib.hid G1
  go_wp2_with fail
  refine (hR _ D1).mono ?_
  rintro e w2 ⟨rfl, R2, G2⟩
  have T2 := Lib.hid (h.out.byDoc P1.out R2 G2)
  have O2 := Lib.hid (pq_both G1.out G2)
  clear R2 G2
  have hE := Lib.hid (PEnd_any c g l k' y' w2 (Lib.hid T2.out.own))
  have hy : y' ≤ 1000 := by rcases T2.out.own.num with e | e <;> omega
  have hD := Lib.hid (REnd_any c2 A n cap l k' y' w2 (Lib.hid T2.out.doc) hy)
  obtain ⟨z, ez⟩ : ∃ z, rdEnd l k' y' = z := ⟨_, rfl⟩
  rw [ez] at hE hD
  have i2 : ((z : Int) == (z : Int)) = true := by simp
  clear ez
  go_wp2_with fail
  refine hE.out.mono ?_
  rintro e w3 ⟨rfl, rfl⟩
  go_wp2_with fail
  refine hD.out.mono ?_
  rintro e w3 ⟨rfl, q, rfl⟩
  have T3 := Lib.hid (T2.out.drewN q)
  have O3 := Lib.hid (O2.out.drewN q)
  go_wp2_with fail
  go_ret
  exact ⟨rfl, T3.out, O3.out⟩

set_option maxRecDepth 100000 in
set_option maxHeartbeats 1000000 in
theorem Get_text (c g c2 : Nat) (kind : Int) (h1 : kind ≠ 1) (h2 : kind ≠ 2) (A : Option Addr) (n cap : Nat) (l : List UInt8) (k y : Nat) (w : World) (h : Hid (Two c g c2 A n cap l k y w)) :
    Calls Try.prog 12 #[.pointer (some ⟨c, 0, none⟩), .pointer (some ⟨c2, 0, none⟩), .int .i64 kind] w fun e w' => e = .returned (.bool true) ∧ Two c g c2 A n cap l (rdText l k y).2.1 (rdText l k y).2.2 w' ∧ Only (pq c c2) w w' := by
  have hP := PText_any c g l k y w (Lib.hid h.out.own)
  have hR := fun W (H : Hid (Rd c2 A n cap l k y W)) => RText_any c2 A n cap l k y W H
  obtain ⟨x, ex⟩ : ∃ x, str (rdText l k y).1 = x := ⟨_, rfl⟩
  obtain ⟨k', ek⟩ : ∃ k', (rdText l k y).2.1 = k' := ⟨_, rfl⟩
  obtain ⟨y', ey⟩ : ∃ y', (rdText l k y).2.2 = y' := ⟨_, rfl⟩
  rw [ex, ek, ey] at hP hR
  rw [ek, ey]
  clear ex ek ey
  have hP := Lib.hid hP
  have j1 : (kind == 1) = false := by simpa using h1
  have j2 : (kind == 2) = false := by simpa using h2
  clear h1 h2
  go_enter Try.func12, Try.ntmps12
  go_wp2_with fail
  refine hP.out.mono ?_
  rintro e w1 ⟨rfl, P1, G1⟩
  have D1 := Lib.hid (h.out.byOwn P1 G1)
  have P1 := Lib.hid P1
  have G1 := Lib.hid G1
  go_wp2_with fail
  refine (hR _ D1).mono ?_
  rintro e w2 ⟨rfl, R2, G2⟩
  have T2 := Lib.hid (h.out.byDoc P1.out R2 G2)
  have O2 := Lib.hid (pq_both G1.out G2)
  clear R2 G2
  have hE := Lib.hid (PEnd_any c g l k' y' w2 (Lib.hid T2.out.own))
  have hy : y' ≤ 1000 := by rcases T2.out.own.num with e | e <;> omega
  have hD := Lib.hid (REnd_any c2 A n cap l k' y' w2 (Lib.hid T2.out.doc) hy)
  obtain ⟨z, ez⟩ : ∃ z, rdEnd l k' y' = z := ⟨_, rfl⟩
  rw [ez] at hE hD
  have i2 : ((z : Int) == (z : Int)) = true := by simp
  clear ez
  go_wp2_with fail
  refine hE.out.mono ?_
  rintro e w3 ⟨rfl, rfl⟩
  go_wp2_with fail
  refine hD.out.mono ?_
  rintro e w3 ⟨rfl, q, rfl⟩
  have T3 := Lib.hid (T2.out.drewN q)
  have O3 := Lib.hid (O2.out.drewN q)
  go_wp2_with fail
  go_ret
  exact ⟨rfl, T3.out, O3.out⟩

theorem Get_any (c g c2 : Nat) (A : Option Addr) (n cap : Nat) (l : List UInt8) (k y kind : Nat) (w : World) (h : Hid (Two c g c2 A n cap l k y w)) :
    Calls Try.prog 12 #[.pointer (some ⟨c, 0, none⟩), .pointer (some ⟨c2, 0, none⟩), .int .i64 kind] w fun e w' => e = .returned (.bool true) ∧ Two c g c2 A n cap l (rdStep l k y kind).1 (rdStep l k y kind).2 w' ∧ Only (pq c c2) w w' := by
  by_cases h1 : kind = 1
  · subst h1
    exact Get_one c g c2 A n cap l k y w h
  · by_cases h2 : kind = 2
    · subst h2
      exact Get_two c g c2 A n cap l k y w h
    · have e : rdStep l k y kind = (rdText l k y).2 := by unfold rdStep; rw [if_neg h1, if_neg h2]
      rw [e]
      exact Get_text c g c2 kind (by omega) (by omega) A n cap l k y w h
end Go.Proofs.Ytnjedfnaohdnfaa
