/-
  Contracts: Parse and ParseSpread of the document's own answer, for whatever text.
-/
import Derived.Test.YtfhegnmfkmolbaaSymRef
namespace Go.Proofs.Ytfhegnmfkmolbaa
open Go.RowKit
set_option linter.unusedVariables false
set_option linter.unusedSimpArgs false

theorem three_ends (l : List UInt8) (h : 4 ≤ l.length) : ∃ (p : List UInt8) (c d e : UInt8), l = p ++ [c, d, e] ∧ 1 ≤ p.length := by
  have h1 := List.take_append_drop (l.length - 3) l
  have h2 : (l.drop (l.length - 3)).length = 3 := by rw [List.length_drop]; omega
  have h3 : (l.take (l.length - 3)).length = l.length - 3 := by rw [List.length_take]; omega
  match hd : l.drop (l.length - 3), h2 with
  | [c, d, e], _ => exact ⟨l.take (l.length - 3), c, d, e, by rw [← hd, h1], by omega⟩
theorem RefParse_any (l : List UInt8) (w : World) (hs : l.length ≤ 140737488355328) :
    Calls Try.prog 21 #[.string (str l)] w fun x w' => x = .returned (.tuple #[.string (str (pq l)), .int .i64 (pm l), .int .i64 (pe l)]) ∧ Below w.heap.size w w' := by
  by_cases h4 : l.length < 4
  · obtain ⟨e1, e2, e3⟩ := parse_none (parseO_short h4)
    rw [e1, e2, e3]
    exact RefParse_short l w h4
  · obtain ⟨p, c, d, e, rfl, hp1⟩ := three_ends l (by omega)
    have E := ends_of p c d e
    have hpl : p.length ≤ 140737488355328 := by rw [List.length_append] at hs; omega
    have hpa := parseO_app p c d e
    have no : ∀ {P : Prop}, (readO c.toNat d.toNat e.toNat = none → P) → (dig d.toNat && dig e.toNat) = false → P := by
      intro P h hd
      refine h ?_
      unfold readO; rw [hd]; rfl
    have fin : parseO (p ++ [c, d, e]) = none → Calls Try.prog 21 #[.string (str (p ++ [c, d, e]))] w (fun x w' => x = .returned (.tuple #[.string (str []), .int .i64 0, .int .i64 12]) ∧ Below w.heap.size w w') →
        Calls Try.prog 21 #[.string (str (p ++ [c, d, e]))] w (fun x w' => x = .returned (.tuple #[.string (str (pq (p ++ [c, d, e]))), .int .i64 (pm (p ++ [c, d, e])), .int .i64 (pe (p ++ [c, d, e]))]) ∧ Below w.heap.size w w') := by
      intro h1 h2
      obtain ⟨e1, e2, e3⟩ := parse_none h1
      rw [e1, e2, e3]
      exact h2
    have off : readO c.toNat d.toNat e.toNat = none → parseO (p ++ [c, d, e]) = none := by
      intro h; rw [hpa, h]; cases prodB p <;> rfl
    by_cases x1 : e.toNat < 48
    · exact fin (off (by unfold readO; rw [show dig e.toNat = false from decide_eq_false (by omega), Bool.and_false]; rfl)) (RefParse_e1 _ p _ c d e w hp1 hpl E x1)
    · by_cases x2 : 57 < e.toNat
      · exact fin (off (by unfold readO; rw [show dig e.toNat = false from decide_eq_false (by omega), Bool.and_false]; rfl)) (RefParse_e2 _ p _ c d e w hp1 hpl E x2)
      · by_cases x3 : d.toNat < 48
        · exact fin (off (by unfold readO; rw [show dig d.toNat = false from decide_eq_false (by omega), Bool.false_and]; rfl)) (RefParse_d1 _ p _ c d e w hp1 hpl E (by omega) (by omega) x3)
        · by_cases x4 : 57 < d.toNat
          · exact fin (off (by unfold readO; rw [show dig d.toNat = false from decide_eq_false (by omega), Bool.false_and]; rfl)) (RefParse_d2 _ p _ c d e w hp1 hpl E (by omega) (by omega) x4)
          · cases hp : prodB p
            · exact fin (by rw [hpa, hp]; rfl) (RefParse_p _ p _ c d e w hp1 hpl E (by omega) (by omega) (by omega) (by omega) (Lib.hid hp) hpl)
            · cases hi : idx c.toNat with
              | none => exact fin (off (readO_idx hi)) (RefParse_m _ p _ c d e none w hp1 hpl E (by omega) (by omega) (by omega) (by omega) (Lib.hid hp) hpl (Lib.hid hi))
              | some i =>
                have hr := readO_yes hi (dig_of (b := d.toNat) (by omega)) (dig_of (b := e.toNat) (by omega))
                rw [hp, hr] at hpa
                obtain ⟨e1, e2, e3⟩ := parse_some hpa
                rw [e1, e2, e3]
                exact RefParse_m _ p _ c d e (some i) w hp1 hpl E (by omega) (by omega) (by omega) (by omega) (Lib.hid hp) hpl (Lib.hid hi)

theorem byte_at (l : List UInt8) (i : Nat) (h : i < (str l).size) : (str l)[i] = l.getD i 0 := by
  have h2 : i < l.length := h
  rw [List.getD_eq_getElem?_getD, List.getElem?_eq_getElem h2]
  rfl
theorem stroke_here {l : List UInt8} {i : Nat} (h0 : ∀ x ∈ l.take i, x ≠ 45) (hi : i < l.length) (hb : l.getD i 0 = 45) : l.take i = hdL l ∧ l.drop (i + 1) = tlL l := by
  have e4 : l.drop i = 45 :: l.drop (i + 1) := by
    rw [List.drop_eq_getElem_cons hi]
    rw [List.getD_eq_getElem?_getD, List.getElem?_eq_getElem hi] at hb
    rw [show l[i] = 45 from hb]
  have e5 : l = l.take i ++ 45 :: l.drop (i + 1) := by rw [← e4, List.take_append_drop]
  have h1 := halves_at (b := l.drop (i + 1)) h0
  rw [← e5] at h1
  exact ⟨h1.1.symm, h1.2.symm⟩
theorem none_here {l : List UInt8} {i : Nat} (h0 : ∀ x ∈ l.take i, x ≠ 45) (hi : i < l.length) (hb : l.getD i 0 ≠ 45) : ∀ x ∈ l.take (i + 1), x ≠ 45 := by
  intro x hx
  rw [List.take_add_one] at hx
  rcases List.mem_append.1 hx with hx | hx
  · exact h0 x hx
  · rw [List.getElem?_eq_getElem hi] at hx
    rw [List.getD_eq_getElem?_getD, List.getElem?_eq_getElem hi] at hb
    simp only [Option.toList_some, List.mem_singleton] at hx
    rw [hx]; exact hb

set_option maxRecDepth 100000 in
set_option maxHeartbeats 4000000 in
theorem RefParseSpread_go (l a b p q P : List UInt8) (n f e1 e2 N F E : Nat) (w : World) (hs : l.length ≤ 140737488355328) (al : a.length ≤ 140737488355328) (bl : b.length ≤ 140737488355328) (ha : Hid (hdL l = a)) (hb : Hid (tlL l = b))
    (h1 : Hid (pq a = p)) (h2 : Hid (pm a = n)) (h3 : Hid (pe a = e1)) (h4 : Hid (pq b = q)) (h5 : Hid (pm b = f)) (h6 : Hid (pe b = e2)) (n1 : n ≤ 1199) (f1 : f ≤ 1199)
    (hno : Hid ((∀ x ∈ l, x ≠ 45) → E = 12 ∧ P = [] ∧ N = 0 ∧ F = 0))
    (H : Hid ((e1 = 12 ∧ E = 12 ∧ P = [] ∧ N = 0 ∧ F = 0) ∨ (e1 = 0 ∧ e2 = 12 ∧ E = 12 ∧ P = [] ∧ N = 0 ∧ F = 0) ∨ (e1 = 0 ∧ e2 = 0 ∧ q ≠ p ∧ E = 12 ∧ P = [] ∧ N = 0 ∧ F = 0) ∨
      (e1 = 0 ∧ e2 = 0 ∧ q = p ∧ f ≤ n ∧ E = 12 ∧ P = [] ∧ N = 0 ∧ F = 0) ∨ (e1 = 0 ∧ e2 = 0 ∧ q = p ∧ n < f ∧ E = 0 ∧ P = p ∧ N = n ∧ F = f))) :
    Calls Try.prog 22 #[.string (str l)] w fun e w' => e = .returned (.tuple #[.string (str P), .int .i64 N, .int .i64 F, .int .i64 E]) ∧ Below w.heap.size w w' := by
  obtain ⟨z, ez⟩ : ∃ z, l.length = z := ⟨_, rfl⟩
  have hz : (str l).size = z := by rw [str_size, ez]
  rw [ez] at hs
  go_enter Try.func22, Try.ntmps22
  go_wp2
  go_loopw [6] (fun s wr => ∃ i : Nat, i ≤ z ∧ s = .int .i64 i ∧ Hid (∀ x ∈ l.take i, x ≠ 45) ∧ Hid (Below w.heap.size w wr)) (fun s _ => (z - intOf s).toNat)
  case atStart => exact ⟨0, by omega, rfl, Lib.hid (by simp), Lib.hid (Below.refl _ _)⟩
  case round =>
    obtain ⟨i, hi, rfl, h0, hB⟩ := hrel
    by_cases hlt : i < z
    · have hd : decide ((i : Int) < (z : Int)) = true := decide_eq_true (by omega)
      have hd0 : decide (i < z) = true := decide_eq_true (by omega)
      obtain ⟨lb, elb⟩ : ∃ lb, l.getD i 0 = lb := ⟨_, rfl⟩
      have gi : ∀ h : i < (str l).size, (str l)[i] = lb := fun h => by rw [byte_at, elb]
      by_cases hc : lb = 45
      · subst hc
        have ⟨ea, eb⟩ := stroke_here h0.out (by omega) elb
        rw [ha.out] at ea
        rw [hb.out] at eb
        have x1 : Hid ((str l).extract 0 i = str a) := Lib.hid (by rw [ext_to, ea])
        have x2 : Hid ((str l).extract (i + 1) z = str b) := Lib.hid (by rw [ext_str, List.take_of_length_le (by rw [List.length_drop]; omega), eb])
        clear ea eb elb
        have i1 : (((45 : UInt8).toNat : Int) != 45) = false := by decide
        have i2 : (((45 : UInt8).toNat : Int)) = 45 := by decide
        go_wp2_with fail
        rw [x1.out]
        refine (RefParse_any a _ al).mono ?_
        rintro x w2 ⟨rfl, bw⟩
        rw [h1.out, h2.out, h3.out]
        have B2 := Lib.hid (hB.out.trans (bw.mono hB.out.size))
        clear bw
        go_wp2_with fail
        rw [x2.out]
        refine (RefParse_any b _ bl).mono ?_
        rintro x w3 ⟨rfl, bw⟩
        rw [h4.out, h5.out, h6.out]
        have B3 := Lib.hid (B2.out.trans (bw.mono B2.out.size))
        clear bw
        rcases H.out with ⟨rfl, rfl, rfl, rfl, rfl⟩ | ⟨rfl, rfl, rfl, rfl, rfl, rfl⟩ | ⟨rfl, rfl, hq, rfl, rfl, rfl, rfl⟩ | ⟨rfl, rfl, rfl, hm, rfl, rfl, rfl, rfl⟩ | ⟨rfl, rfl, rfl, hm, rfl, rfl, rfl, rfl⟩
        · go_wp2_with fail
          (try simp only [Exit.inBlock, Exit.then]); refine bodyPost_ret (results_tmp4 rfl _ _ _) rfl ?_
          exact ⟨rfl, B3.out⟩
        · go_wp2_with fail
          (try simp only [Exit.inBlock, Exit.then]); refine bodyPost_ret (results_tmp4 rfl _ _ _) rfl ?_
          exact ⟨rfl, B3.out⟩
        · have hne := str_neq (fun h => hq h.symm : ¬ p = q)
          clear hq
          go_wp2_with fail
          (try simp only [Exit.inBlock, Exit.then]); refine bodyPost_ret (results_tmp4 rfl _ _ _) rfl ?_
          exact ⟨rfl, B3.out⟩
        · have hd : decide ((f : Int) ≤ n) = true := decide_eq_true (by omega)
          have hd2 : decide (f ≤ n) = true := decide_eq_true (by omega)
          go_wp2_with fail
          (try simp only [Exit.inBlock, Exit.then]); refine bodyPost_ret (results_tmp4 rfl _ _ _) rfl ?_
          exact ⟨rfl, B3.out⟩
        · have hd : decide ((F : Int) ≤ N) = false := decide_eq_false (by omega)
          have hd2 : decide (F ≤ N) = false := decide_eq_false (by omega)
          go_wp2_with fail
          (try simp only [Exit.inBlock, Exit.then]); refine bodyPost_ret (results_tmp4 rfl _ _ _) rfl ?_
          exact ⟨rfl, B3.out⟩
      · have hc2 : lb.toNat ≠ 45 := fun h => hc (UInt8.toNat_inj.1 h)
        have h02 := Lib.hid (none_here h0.out (by omega) (by rw [elb]; exact hc))
        have i1 : ((lb.toNat : Int) != 45) = true := by simp; omega
        clear elb hc hc2
        go_wp2_with fail
        go_roundw
        case rel => exact ⟨i + 1, by omega, by go_num, h02, hB⟩
        case measure => simp [intOf]; omega
    · have hd : decide ((i : Int) < (z : Int)) = false := decide_eq_false (by omega)
      have hd0 : decide (i < z) = false := decide_eq_false (by omega)
      obtain ⟨rfl, rfl, rfl, rfl⟩ := hno.out (fun x hx => h0.out x (by rw [List.take_of_length_le (by omega)]; exact hx))
      go_wp2_with fail
      (try simp only [Exit.inBlock, Exit.then]); refine bodyPost_ret (results_tmp4 rfl _ _ _) rfl ?_
      exact ⟨rfl, hB.out⟩
theorem RefParseSpread_any (l : List UInt8) (w : World) (hs : l.length ≤ 140737488355328) :
    Calls Try.prog 22 #[.string (str l)] w fun e w' => e = .returned (.tuple #[.string (str (sq l)), .int .i64 (sn l), .int .i64 (sf l), .int .i64 (se l)]) ∧ Below w.heap.size w w' := by
  have a1 := hdL_len l
  have a2 := tlL_len l
  refine RefParseSpread_go l _ _ _ _ _ _ _ _ _ _ _ _ w hs (by omega) (by omega) (Lib.hid rfl) (Lib.hid rfl) (Lib.hid rfl) (Lib.hid rfl) (Lib.hid rfl) (Lib.hid rfl) (Lib.hid rfl) (Lib.hid rfl) (pm_le _) (pm_le _) (Lib.hid ?_) (Lib.hid ?_)
  · intro h
    have h2 := halves_none h
    have h3 : spreadO l = none := spreadO_tl (by rw [h2.2]; rfl)
    obtain ⟨e1, e2, e3, e4⟩ := spread_none h3
    exact ⟨e4, e1, e2, e3⟩
  rcases spread_how l with ⟨h1, h2⟩ | ⟨h1, h2, h3⟩ | ⟨h1, h2, h3, h4⟩ | ⟨h1, h2, h3, h4, h5⟩ | ⟨h1, h2, h3, h4, h5⟩
  · obtain ⟨e1, e2, e3, e4⟩ := spread_none h2
    exact .inl ⟨h1, e4, e1, e2, e3⟩
  · obtain ⟨e1, e2, e3, e4⟩ := spread_none h3
    exact .inr (.inl ⟨h1, h2, e4, e1, e2, e3⟩)
  · obtain ⟨e1, e2, e3, e4⟩ := spread_none h4
    exact .inr (.inr (.inl ⟨h1, h2, h3, e4, e1, e2, e3⟩))
  · obtain ⟨e1, e2, e3, e4⟩ := spread_none h5
    exact .inr (.inr (.inr (.inl ⟨h1, h2, h3, h4, e4, e1, e2, e3⟩)))
  · obtain ⟨e1, e2, e3, e4⟩ := spread_some h5
    exact .inr (.inr (.inr (.inr ⟨h1, h2, h3, h4, e4, e1, e2, e3⟩)))
end Go.Proofs.Ytfhegnmfkmolbaa
