/-
  Plain facts: what is written of reports is read.
-/
import Derived.Test.YtjhfgajhmenboaaDoorRepRead1
import Derived.Test.YtjhfgajhmenboaaDoorRepAllP
namespace Go.Proofs.YtjhfgajhmenboaaDoor
open Go.RowKit
set_option linter.unusedVariables false
set_option linter.unusedSimpArgs false

theorem getD_behind (a m : List UInt8) (i : Nat) : (a ++ m).getD (a.length + i) 0 = m.getD i 0 := by
  rw [List.getD_eq_getElem?_getD, List.getD_eq_getElem?_getD, List.getElem?_append_right (by omega), Nat.add_sub_cancel_left]
theorem drop_behind (a m : List UInt8) (i : Nat) : (a ++ m).drop (a.length + i) = m.drop i := by
  rw [List.drop_append, List.drop_eq_nil_of_le (by omega), List.nil_append, Nat.add_sub_cancel_left]
/-- A frame that stands behind some bytes and ahead of others is opened. -/
theorem open_frame (a b r : List UInt8) (hb : b.length ≤ 255) : openR (a ++ (frameL b ++ r)) (a.length : Int) = (b, a.length + 6 + b.length, 0) := by
  have hx : (UInt8.ofNat b.length).toNat = b.length := u8_nat (by omega)
  have hy : (UInt8.ofNat (255 - b.length)).toNat = 255 - b.length := u8_nat (by omega)
  have hm : frameL b ++ r = UInt8.ofNat b.length :: UInt8.ofNat (255 - b.length) :: (b ++ (crcBytes (crcL b) ++ r)) := by unfold frameL; simp
  have hlen : (frameL b ++ r).length = b.length + 6 + r.length := by rw [List.length_append, frameL_len]
  rw [openR_at (by rw [List.length_append]; omega)]
  have g0 : (a ++ (frameL b ++ r)).getD a.length 0 = UInt8.ofNat b.length := by have := getD_behind a (frameL b ++ r) 0; rw [Nat.add_zero] at this; rw [this, hm]; rfl
  have g1 : (a ++ (frameL b ++ r)).getD (a.length + 1) 0 = UInt8.ofNat (255 - b.length) := by rw [getD_behind, hm]; rfl
  have hd : ((a ++ (frameL b ++ r)).drop (a.length + 2)).take b.length = b := by rw [drop_behind, hm]; simp
  have hs : ∀ i, (a ++ (frameL b ++ r)).getD (a.length + 2 + b.length + i) 0 = (crcBytes (crcL b) ++ r).getD i 0 := by
    intro i
    rw [show a.length + 2 + b.length + i = a.length + (2 + (b.length + i)) by omega, getD_behind, hm]
    have := getD_behind b (crcBytes (crcL b) ++ r) i
    rw [← this, show 2 + (b.length + i) = (b.length + i) + 1 + 1 by omega, List.getD_cons_succ, List.getD_cons_succ]
  have s0 := hs 0
  rw [Nat.add_zero] at s0
  have e := openN_yes (l := a ++ (frameL b ++ r)) (k := a.length) g0 g1 (by rw [hx, hy]) (by rw [hx, List.length_append, hlen]; omega)
  rw [hx, hd, s0, hs 1, hs 2, hs 3] at e
  refine e ?_
  have := four_of (crcL_lt b)
  unfold crcBytes
  exact this.symm
/-- A frame that is cut off is at its end. -/
theorem open_cut (a b : List UInt8) (hb : b.length ≤ 255) (k : Nat) (h1 : a.length ≤ k) (h2 : k < a.length + (b.length + 6)) (r : List UInt8) : openR ((a ++ (frameL b ++ r)).take k) (a.length : Int) = ([], 0, 10) := by
  have hx : (UInt8.ofNat b.length).toNat = b.length := u8_nat (by omega)
  have hy : (UInt8.ofNat (255 - b.length)).toNat = 255 - b.length := u8_nat (by omega)
  have hm : frameL b ++ r = UInt8.ofNat b.length :: UInt8.ofNat (255 - b.length) :: (b ++ (crcBytes (crcL b) ++ r)) := by unfold frameL; simp
  have hlen : (frameL b ++ r).length = b.length + 6 + r.length := by rw [List.length_append, frameL_len]
  have hk : ((a ++ (frameL b ++ r)).take k).length = k := by rw [List.length_take, List.length_append, hlen]; omega
  rw [openR_at (by omega)]
  by_cases hs : k < a.length + 2
  · exact openN_short (by omega)
  · have gt : ∀ i, a.length + i < k → ((a ++ (frameL b ++ r)).take k).getD (a.length + i) 0 = (frameL b ++ r).getD i 0 := by
      intro i hi
      rw [List.getD_eq_getElem?_getD, List.getElem?_take, if_pos hi, ← List.getD_eq_getElem?_getD, getD_behind]
    have g0 := gt 0 (by omega)
    have g1 := gt 1 (by omega)
    rw [Nat.add_zero] at g0
    have e0 : (frameL b ++ r).getD 0 0 = UInt8.ofNat b.length := by rw [hm]; rfl
    have e1 : (frameL b ++ r).getD 1 0 = UInt8.ofNat (255 - b.length) := by rw [hm]; rfl
    rw [e0] at g0
    rw [e1] at g1
    exact openN_tail (by omega) g0 g1 (by show (UInt8.ofNat (255 - b.length)).toNat = 255 - (UInt8.ofNat b.length).toNat; rw [hx, hy]) (by show _ < a.length + ((UInt8.ofNat b.length).toNat + 6); rw [hx]; omega)
theorem numL_long (u : Nat) (k : Nat) : numL (longTo u k) = u % 256 ^ k := by
  induction k with
  | zero => simp [longTo, numL, Nat.mod_one]
  | succ k ih =>
    rw [longTo_next, numL_append, ih, longTo_len]
    simp only [numL, byte_nat']
    rw [Nat.pow_mul, show (2 : Nat) ^ 8 = 256 by decide, Nat.mul_zero, Nat.add_zero, Nat.pow_succ, Nat.mod_mul]
theorem long_back {n : Int} (h1 : -9223372036854775808 ≤ n) (h2 : n ≤ 9223372036854775807) : wrap64 (numL (longL n) : Nat) = n := by
  have hb : bits64 n < 18446744073709551616 := by
    have := Int.emod_lt_of_pos n (show (0 : Int) < 18446744073709551616 by omega)
    have := Int.emod_nonneg n (show (18446744073709551616 : Int) ≠ 0 by omega)
    unfold bits64; omega
  have e : numL (longL n) = bits64 n := by
    unfold longL
    rw [numL_long, show (256 : Nat) ^ 8 = 18446744073709551616 by decide, Nat.mod_eq_of_lt hb]
  rw [e]
  unfold bits64
  have := Int.emod_nonneg n (show (18446744073709551616 : Int) ≠ 0 by omega)
  have := Int.emod_lt_of_pos n (show (0 : Int) < 18446744073709551616 by omega)
  unfold wrap64
  omega
theorem take_here {l x r : List UInt8} {k : Nat} (hk : k ≤ l.length) (h : l.drop k = x ++ r) : rdTake l k 0 x.length = (x, k + x.length, 0) ∧ l.drop (k + x.length) = r ∧ k + x.length ≤ l.length := by
  have hl := congrArg List.length h
  rw [List.length_drop, List.length_append] at hl
  refine ⟨?_, ?_, by omega⟩
  · rw [rdTake_yes (by omega), h, List.take_left' rfl]
  · rw [← List.drop_drop, h, List.drop_left' rfl]
theorem byte_back {n : Int} (h0 : 0 ≤ n) (h1 : n ≤ 255) : ((headN [byteOf n] : Nat) : Int) = n := by
  rw [headN_one, byteOf_nat]
  omega
/-- What a right report is written as is read as it. -/
theorem enc_read {r : Q} (hO : r.Ok) (hR : r.Right) : decOk (encQ r) ∧ readQ (encQ r) = r := by
  obtain ⟨k, i, n, s, p, q, l, y⟩ := r
  obtain ⟨⟨k1, k2⟩, ⟨i1, i2⟩, ⟨n1, n2⟩, ⟨s1, s2⟩, ⟨p1, p2⟩, ⟨q1, q2⟩, ⟨l1, l2⟩, ⟨y1, y2⟩⟩ := hO
  have hR' := hR
  obtain ⟨⟨r1, r2⟩, ⟨r3, r4⟩, ⟨r5, r6⟩, r7, r8⟩ := hR
  simp only at k1 k2 i1 i2 n1 n2 s1 s2 p1 p2 q1 q2 l1 l2 y1 y2 r1 r2 r3 r4 r5 r6 r7 r8
  have e0 : encQ ⟨k, i, n, s, p, q, l, y⟩ = [byteOf k] ++ (longL i ++ ([byteOf n] ++ ([byteOf s] ++ (longL p ++ (longL q ++ (longL l ++ ([byteOf y] ++ []))))))) := by simp [encQ]
  obtain ⟨T, eT⟩ : ∃ T, encQ ⟨k, i, n, s, p, q, l, y⟩ = T := ⟨_, rfl⟩
  have hlen : T.length = 36 := by rw [← eT]; exact encQ_len _
  rw [eT] at e0 ⊢
  have d0 : T.drop 0 = [byteOf k] ++ (longL i ++ ([byteOf n] ++ ([byteOf s] ++ (longL p ++ (longL q ++ (longL l ++ ([byteOf y] ++ []))))))) := by rw [List.drop_zero, e0]
  clear e0 eT
  obtain ⟨t0, d1, b1⟩ := take_here (Nat.zero_le _) d0
  obtain ⟨t1, d2, b2⟩ := take_here b1 d1
  obtain ⟨t2, d3, b3⟩ := take_here b2 d2
  obtain ⟨t3, d4, b4⟩ := take_here b3 d3
  obtain ⟨t4, d5, b5⟩ := take_here b4 d4
  obtain ⟨t5, d6, b6⟩ := take_here b5 d5
  obtain ⟨t6, d7, b7⟩ := take_here b6 d6
  obtain ⟨t7, d8, b8⟩ := take_here b7 d7
  simp only [longL_len, List.length_singleton] at t0 t1 t2 t3 t4 t5 t6 t7 d8 b8
  have f0 : dK T = ([byteOf k], 0 + 1, 0) := by rw [dK_eq]; exact t0
  have f1 : dI T = (longL i, 0 + 1 + 8, 0) := by rw [dI_eq, f0]; exact t1
  have f2 : dN T = ([byteOf n], 0 + 1 + 8 + 1, 0) := by rw [dN_eq, f1]; exact t2
  have f3 : dS T = ([byteOf s], 0 + 1 + 8 + 1 + 1, 0) := by rw [dS_eq, f2]; exact t3
  have f4 : dP T = (longL p, 0 + 1 + 8 + 1 + 1 + 8, 0) := by rw [dP_eq, f3]; exact t4
  have f5 : dQ T = (longL q, 0 + 1 + 8 + 1 + 1 + 8 + 8, 0) := by rw [dQ_eq, f4]; exact t5
  have f6 : dL T = (longL l, 0 + 1 + 8 + 1 + 1 + 8 + 8 + 8, 0) := by rw [dL_eq, f5]; exact t6
  have f7 : dY T = ([byteOf y], 0 + 1 + 8 + 1 + 1 + 8 + 8 + 8 + 1, 0) := by rw [dY_eq, f6]; exact t7
  have hq : readQ T = ⟨k, i, n, s, p, q, l, y⟩ := by
    unfold readQ
    rw [f0, f1, f2, f3, f4, f5, f6, f7]
    simp only [Q.mk.injEq]
    exact ⟨byte_back (by omega) (by omega), long_back i1 i2, byte_back r3 r4, byte_back r5 (by omega), long_back p1 p2, long_back q1 q2, long_back l1 l2, byte_back r7 r8⟩
  refine ⟨⟨?_, by rw [hq]; exact hR'⟩, hq⟩
  unfold readP
  rw [f7]
  show rdEnd T (0 + 1 + 8 + 1 + 1 + 8 + 8 + 8 + 1) 0 = 0
  have : 0 + 1 + 8 + 1 + 1 + 8 + 8 + 8 + 1 = T.length := by rw [hlen]
  rw [this]
  exact rdEnd_all (by omega)
/-- Unlike right reports have unlike bytes. -/
theorem enc_inj {r d : Q} (hr : r.Ok) (hr2 : r.Right) (hd : d.Ok) (hd2 : d.Right) (h : encQ r = encQ d) : r = d := by
  rw [← (enc_read hr hr2).2, ← (enc_read hd hd2).2, h]
/-- The right ones. -/
def goodL (L : List Q) : List Q := L.filter (fun r => decide r.Right)
def frsL : List Q → List UInt8
  | [] => []
  | r :: R => frameL (encQ r) ++ frsL R
theorem allQ_good (L : List Q) : allQ L = frsL (goodL L) := by
  induction L with
  | nil => rfl
  | cons r L ih =>
    unfold goodL at ih ⊢
    by_cases h : r.Right
    · rw [List.filter_cons_of_pos (by simpa using h), allQ, frQ_yes h, frsL, ih]
    · rw [List.filter_cons_of_neg (by simpa using h), allQ, frQ_no h, ih]; rfl
theorem goodL_right {L : List Q} : ∀ r ∈ goodL L, r.Right := by
  intro r hr
  unfold goodL at hr
  simpa using (List.mem_filter.1 hr).2
theorem goodL_ok {L : List Q} (h : OkL L) : OkL (goodL L) := by
  intro r hr
  unfold goodL at hr
  exact h r (List.mem_filter.1 hr).1
theorem goodL_len (L : List Q) : (goodL L).length ≤ L.length := List.length_filter_le _ _
theorem goodL_snoc_yes {L : List Q} {r : Q} (h : r.Right) : goodL (L ++ [r]) = goodL L ++ [r] := by
  unfold goodL
  rw [List.filter_append, List.filter_cons_of_pos (by simpa using h), List.filter_nil]
theorem goodL_snoc_no {L : List Q} {r : Q} (h : ¬ r.Right) : goodL (L ++ [r]) = goodL L := by
  unfold goodL
  rw [List.filter_append, List.filter_cons_of_neg (by simpa using h), List.filter_nil, List.append_nil]
theorem frsL_append (R S : List Q) : frsL (R ++ S) = frsL R ++ frsL S := by
  induction R with
  | nil => rfl
  | cons r R ih => rw [List.cons_append, frsL, frsL, ih, List.append_assoc]
theorem frsL_len (R : List Q) : (frsL R).length = 42 * R.length := by
  induction R with
  | nil => rfl
  | cons r R ih => rw [frsL, List.length_append, frameL_len, encQ_len, ih, List.length_cons]; omega
/-- The frame of place k, with what lies around it. -/
theorem frsL_at {R : List Q} {k : Nat} (h : k < R.length) (t : List UInt8) : frsL R ++ t = frsL (R.take k) ++ (frameL (encQ (R.getD k zeroQ)) ++ (frsL (R.drop (k + 1)) ++ t)) ∧ (frsL (R.take k)).length = 42 * k := by
  have e : R = R.take k ++ (R.getD k zeroQ :: R.drop (k + 1)) := by
    rw [show R.getD k zeroQ = R[k] by simp [List.getD, List.getElem?_eq_getElem h], ← List.drop_eq_getElem_cons h, List.take_append_drop]
  refine ⟨?_, by rw [frsL_len, List.length_take]; omega⟩
  calc frsL R ++ t = frsL (R.take k ++ (R.getD k zeroQ :: R.drop (k + 1))) ++ t := by rw [← e]
    _ = _ := by rw [frsL_append, frsL, List.append_assoc, List.append_assoc]
theorem frs_open {R : List Q} {k : Nat} (h : k < R.length) (t : List UInt8) : openR (frsL R ++ t) ((42 * k : Nat) : Int) = (encQ (R.getD k zeroQ), 42 * (k + 1), 0) := by
  obtain ⟨e, hl⟩ := frsL_at h t
  rw [e, ← hl, open_frame _ _ _ (by rw [encQ_len]; omega), encQ_len, hl]
  rw [show 42 * k + 6 + 36 = 42 * (k + 1) by omega]
/-- Frames of right reports are read, one behind the other. -/
theorem frs_read {R : List Q} (hO : OkL R) (hR : ∀ r ∈ R, r.Right) (t : List UInt8) (f : Nat) : ∀ (j k : Nat), k + j = R.length →
    rdFrom (frsL R ++ t) (j + f) (42 * k) = (R.drop k ++ (rdFrom (frsL R ++ t) f (42 * R.length)).1, (rdFrom (frsL R ++ t) f (42 * R.length)).2) := by
  intro j
  induction j with
  | zero =>
    intro k hk
    have : k = R.length := by omega
    subst this
    rw [List.drop_length, List.nil_append, Nat.zero_add]
  | succ j ih =>
    intro k hk
    have hlt : k < R.length := by omega
    have ho := frs_open hlt t
    have hm : R.getD k zeroQ ∈ R := by
      rw [show R.getD k zeroQ = R[k] by simp [List.getD, List.getElem?_eq_getElem hlt]]
      exact List.getElem_mem hlt
    obtain ⟨h1, h2⟩ := enc_read (hO _ hm) (hR _ hm)
    rw [show j + 1 + f = (j + f) + 1 by omega, rdFrom_next (by rw [List.length_append, frsL_len]; omega) (by rw [ho]) (by rw [ho]; exact h1), ho]
    simp only
    rw [ih (k + 1) (by omega), h2]
    rw [show R.drop k = R.getD k zeroQ :: R.drop (k + 1) by
      rw [show R.getD k zeroQ = R[k] by simp [List.getD, List.getElem?_eq_getElem hlt]]
      exact List.drop_eq_getElem_cons hlt]
    rfl
/-- All of them are read. -/
theorem read_frs {R : List Q} (hO : OkL R) (hR : ∀ r ∈ R, r.Right) : readL (frsL R) = (R, 0) := by
  have h := frs_read hO hR [] (42 * R.length + 1 - R.length) R.length 0 (by omega)
  rw [List.append_nil] at h
  unfold readL
  rw [frsL_len, show 42 * R.length + 1 = R.length + (42 * R.length + 1 - R.length) by omega, show (0 : Nat) = 42 * 0 from rfl, h, rdFrom_end (by rw [frsL_len]; omega)]
  simp
/-- A frame without a report ends what is read. -/
theorem read_bad {R : List Q} (hO : OkL R) (hR : ∀ r ∈ R, r.Right) {c : List UInt8} (hc : c.length ≤ 255) (hd : ¬ decOk c) (t : List UInt8) : readL (frsL R ++ (frameL c ++ t)) = (R, 12) := by
  obtain ⟨T, eT⟩ : ∃ T, frsL R ++ (frameL c ++ t) = T := ⟨_, rfl⟩
  have hlen : T.length = 42 * R.length + (c.length + 6) + t.length := by rw [← eT, List.length_append, List.length_append, frsL_len, frameL_len]; omega
  have h := frs_read hO hR (frameL c ++ t) (T.length + 1 - R.length) R.length 0 (by omega)
  have ho := open_frame (frsL R) c t hc
  rw [eT, frsL_len] at ho
  rw [eT] at h ⊢
  unfold readL
  rw [show T.length + 1 = R.length + (T.length + 1 - R.length) by omega, show (0 : Nat) = 42 * 0 from rfl, h]
  obtain ⟨f, ef⟩ : ∃ f, T.length + 1 - R.length = f + 1 := ⟨T.length - R.length, by omega⟩
  rw [ef, rdFrom_form (by omega) (by rw [ho]) (by rw [ho]; exact hd)]
  simp
/-- Cut off anywhere the first ones are read. -/
theorem read_cut {R : List Q} (hO : OkL R) (hR : ∀ r ∈ R, r.Right) {k : Nat} (hk : k ≤ (frsL R).length) : readL ((frsL R).take k) = (R.take (k / 42), if k % 42 = 0 then 0 else 10) := by
  rw [frsL_len] at hk
  have hj : k / 42 ≤ R.length := by omega
  by_cases hlt : k / 42 < R.length
  · obtain ⟨e, hl⟩ := frsL_at hlt []
    rw [List.append_nil, List.append_nil] at e
    have htl : (R.take (k / 42)).length = k / 42 := by rw [List.length_take]; omega
    have et : (frsL R).take k = frsL (R.take (k / 42)) ++ (frameL (encQ (R.getD (k / 42) zeroQ)) ++ frsL (R.drop (k / 42 + 1))).take (k % 42) := by
      rw [e, List.take_append, List.take_of_length_le (by rw [hl]; omega), hl, show k - 42 * (k / 42) = k % 42 by omega]
    have hmod : k % 42 < 42 := Nat.mod_lt _ (by omega)
    obtain ⟨U, eU⟩ : ∃ U, (frameL (encQ (R.getD (k / 42) zeroQ)) ++ frsL (R.drop (k / 42 + 1))).take (k % 42) = U := ⟨_, rfl⟩
    have hUl : U.length = k % 42 := by rw [← eU, List.length_take, List.length_append, frameL_len, encQ_len]; omega
    have ho := open_cut (frsL (R.take (k / 42))) (encQ (R.getD (k / 42) zeroQ)) (by rw [encQ_len]; omega) k (by rw [hl]; omega) (by rw [hl, encQ_len]; omega) (frsL (R.drop (k / 42 + 1)))
    rw [← e, et, eU, hl] at ho
    rw [et, eU]
    obtain ⟨T, eT⟩ : ∃ T, frsL (R.take (k / 42)) ++ U = T := ⟨_, rfl⟩
    have hlen : T.length = k := by rw [← eT, List.length_append, hl, hUl]; omega
    have h := frs_read (hO.take (k / 42)) (fun r hr => hR r (List.mem_of_mem_take hr)) U (T.length + 1 - k / 42) (k / 42) 0 (by rw [htl]; omega)
    rw [eT] at ho h ⊢
    rw [htl] at h
    unfold readL
    rw [show T.length + 1 = k / 42 + (T.length + 1 - k / 42) by omega, show (0 : Nat) = 42 * 0 from rfl, h]
    by_cases hz : k % 42 = 0
    · rw [if_pos hz, rdFrom_end (by omega)]
      simp
    · obtain ⟨f, ef⟩ : ∃ f, T.length + 1 - k / 42 = f + 1 := ⟨T.length - k / 42, by omega⟩
      rw [if_neg hz, ef, rdFrom_bad (by omega) (by rw [ho]; simp), ho]
      simp
  · have hkk : k = 42 * R.length := by omega
    rw [List.take_of_length_le (by rw [frsL_len]; omega), read_frs hO hR, List.take_of_length_le (by omega), if_pos (by omega)]
end Go.Proofs.YtjhfgajhmenboaaDoor
