/-
  Contracts: Parse and ParseSpread of package symbol.
-/
import Derived.Test.YtfhegnmfkmolbaaSymRead2
namespace Go.Proofs.Ytfhegnmfkmolbaa
open Go.RowKit
set_option linter.unusedVariables false
set_option linter.unusedSimpArgs false

/-- What Parse answers: the product, the month, the number. -/
def pq (l : List UInt8) : List UInt8 := match parseO l with | some x => x.1 | none => []
def pm (l : List UInt8) : Nat := match parseO l with | some x => x.2 | none => 0
def pe (l : List UInt8) : Nat := match parseO l with | some _ => 0 | none => 12
theorem parse_none {l : List UInt8} (h : parseO l = none) : pq l = [] ∧ pm l = 0 ∧ pe l = 12 := by unfold pq pm pe; rw [h]; exact ⟨rfl, rfl, rfl⟩
theorem parse_some {l p : List UInt8} {m : Nat} (h : parseO l = some (p, m)) : pq l = p ∧ pm l = m ∧ pe l = 0 := by unfold pq pm pe; rw [h]; exact ⟨rfl, rfl, rfl⟩

set_option maxRecDepth 100000 in
set_option maxHeartbeats 1000000 in
theorem Parse_cut (l c : List UInt8) (w : World) (hs : l.length ≤ 140737488355328) (hc : Hid (cutL l (((runes l).length : Int) - 3) = c)) (hp : Hid (prodB c = false)) :
    Calls Try.prog 17 #[.string (str l)] w fun e w' => e = .returned (.tuple #[.string (str []), .int .i64 0, .int .i64 12]) ∧ Below w.heap.size w w' := by
  have fl := fits hs
  go_enter Try.func17, Try.ntmps17
  go_wp2_with fail
  refine (Count_any l _ hs).mono ?_
  rintro e w1 ⟨rfl, b⟩
  have B1 := Lib.hid b
  clear b
  go_wp2_with fail
  refine (Cut_any l (((runes l).length : Int) - 3) _ hs (by omega) (by omega)).mono ?_
  rintro e w2 ⟨rfl, b⟩
  rw [hc.out]
  have B2 := Lib.hid (B1.out.trans (b.mono B1.out.size))
  clear b
  go_wp2_with fail
  refine (Product_any c _).mono ?_
  rintro e w3 ⟨rfl, b⟩
  rw [hp.out]
  have B3 := Lib.hid (B2.out.trans (b.mono B2.out.size))
  clear b
  go_wp2_with fail
  go_ret3
  exact ⟨rfl, B3.out⟩

set_option maxRecDepth 100000 in
set_option maxHeartbeats 1000000 in
theorem Parse_read (l c t : List UInt8) (r1 r2 r3 : Nat) (x1 x2 x3 : List UInt8) (o : Option Nat) (w : World) (hs : l.length ≤ 140737488355328) (hc : Hid (cutL l (((runes l).length : Int) - 3) = c)) (hp : Hid (prodB c = true))
    (hcl : c.length ≤ l.length) (ht : Hid (l.drop c.length = t)) (hR : Hid (runes t = [(r1, x1), (r2, x2), (r3, x3)])) (ho : Hid (readO r1 r2 r3 = o)) :
    Calls Try.prog 17 #[.string (str l)] w fun e w' => e = .returned (.tuple #[.string (str (match o with | some _ => c | none => [])), .int .i64 (((match o with | some m => m | none => 0) : Nat) : Int), .int .i64 (((match o with | some _ => 0 | none => 12) : Nat) : Int)]) ∧ Below w.heap.size w w' := by
  have fl := fits hs
  have z1 : (str c).size ≤ (str l).size := by rw [str_size, str_size]; exact hcl
  have x1 : Hid ((str l).extract (str c).size (str l).size = str t) := Lib.hid (by rw [ext_str, str_size, str_size, List.take_of_length_le (by rw [List.length_drop]; omega), ht.out])
  go_enter Try.func17, Try.ntmps17
  go_wp2_with fail
  refine (Count_any l _ hs).mono ?_
  rintro e w1 ⟨rfl, b⟩
  have B1 := Lib.hid b
  clear b
  go_wp2_with fail
  refine (Cut_any l (((runes l).length : Int) - 3) _ hs (by omega) (by omega)).mono ?_
  rintro e w2 ⟨rfl, b⟩
  rw [hc.out]
  have B2 := Lib.hid (B1.out.trans (b.mono B1.out.size))
  clear b
  go_wp2_with fail
  refine (Product_any c _).mono ?_
  rintro e w3 ⟨rfl, b⟩
  rw [hp.out]
  have B3 := Lib.hid (B2.out.trans (b.mono B2.out.size))
  clear b
  go_wp2_with fail
  rw [x1.out]
  refine (ReadMonth_any t r1 r2 r3 _ _ _ o _ hR.out ho.out).mono ?_
  rintro e w4 ⟨rfl, b⟩
  have B4 := Lib.hid (B3.out.trans (b.mono B3.out.size))
  clear b
  cases o with
  | none =>
    go_wp2_with fail
    go_ret3
    exact ⟨rfl, B4.out⟩
  | some m =>
    go_wp2_with fail
    go_ret3
    exact ⟨rfl, B4.out⟩

theorem Parse_any (l : List UInt8) (w : World) (hs : l.length ≤ 140737488355328) :
    Calls Try.prog 17 #[.string (str l)] w fun e w' => e = .returned (.tuple #[.string (str (pq l)), .int .i64 (pm l), .int .i64 (pe l)]) ∧ Below w.heap.size w w' := by
  cases hp : prodB (cutL l (((runes l).length : Int) - 3))
  · obtain ⟨e1, e2, e3⟩ := parse_none (cut_no hp)
    rw [e1, e2, e3]
    exact Parse_cut l _ w hs (Lib.hid rfl) (Lib.hid hp)
  · obtain ⟨a, b, c, xa, xb, xc, hR, ho⟩ := cut_yes hp
    cases hr : readO a b c with
    | none =>
      rw [hr] at ho
      obtain ⟨e1, e2, e3⟩ := parse_none ho
      rw [e1, e2, e3]
      exact Parse_read l _ _ a b c xa xb xc none w hs (Lib.hid rfl) (Lib.hid hp) (cutL_le _ _) (Lib.hid rfl) (Lib.hid hR) (Lib.hid hr)
    | some m =>
      rw [hr] at ho
      obtain ⟨e1, e2, e3⟩ := parse_some ho
      rw [e1, e2, e3]
      exact Parse_read l _ _ a b c xa xb xc (some m) w hs (Lib.hid rfl) (Lib.hid hp) (cutL_le _ _) (Lib.hid rfl) (Lib.hid hR) (Lib.hid hr)

/-! ### Spreads -/
/-- What a text is the name of. -/
def spreadO (l : List UInt8) : Option (List UInt8 × Nat × Nat) :=
  match parseO (hdL l), parseO (tlL l) with
  | some (p, n), some (q, f) => if p = q ∧ n < f then some (p, n, f) else none
  | _, _ => none
def sq (l : List UInt8) : List UInt8 := match spreadO l with | some x => x.1 | none => []
def sn (l : List UInt8) : Nat := match spreadO l with | some x => x.2.1 | none => 0
def sf (l : List UInt8) : Nat := match spreadO l with | some x => x.2.2 | none => 0
def se (l : List UInt8) : Nat := match spreadO l with | some _ => 0 | none => 12
theorem spread_none {l : List UInt8} (h : spreadO l = none) : sq l = [] ∧ sn l = 0 ∧ sf l = 0 ∧ se l = 12 := by unfold sq sn sf se; rw [h]; exact ⟨rfl, rfl, rfl, rfl⟩
theorem spread_some {l p : List UInt8} {n f : Nat} (h : spreadO l = some (p, n, f)) : sq l = p ∧ sn l = n ∧ sf l = f ∧ se l = 0 := by unfold sq sn sf se; rw [h]; exact ⟨rfl, rfl, rfl, rfl⟩
theorem spreadO_hd {l : List UInt8} (h : parseO (hdL l) = none) : spreadO l = none := by unfold spreadO; rw [h]
theorem spreadO_tl {l : List UInt8} (h : parseO (tlL l) = none) : spreadO l = none := by unfold spreadO; rw [h]; cases parseO (hdL l) <;> rfl
theorem spreadO_no {l p q : List UInt8} {n f : Nat} (h1 : parseO (hdL l) = some (p, n)) (h2 : parseO (tlL l) = some (q, f)) (h : ¬ (p = q ∧ n < f)) : spreadO l = none := by unfold spreadO; rw [h1, h2]; exact if_neg h
theorem spreadO_yes {l p : List UInt8} {n f : Nat} (h1 : parseO (hdL l) = some (p, n)) (h2 : parseO (tlL l) = some (p, f)) (h : n < f) : spreadO l = some (p, n, f) := by unfold spreadO; rw [h1, h2]; exact if_pos ⟨rfl, h⟩
theorem spread_of {l p : List UInt8} {n f : Nat} (h : spreadO l = some (p, n, f)) : parseO (hdL l) = some (p, n) ∧ parseO (tlL l) = some (p, f) ∧ n < f := by
  cases h1 : parseO (hdL l) with
  | none => rw [spreadO_hd h1] at h; cases h
  | some x =>
    cases h2 : parseO (tlL l) with
    | none => rw [spreadO_tl h2] at h; cases h
    | some y =>
      obtain ⟨p1, n1⟩ := x
      obtain ⟨p2, n2⟩ := y
      by_cases hc : p1 = p2 ∧ n1 < n2
      · obtain ⟨rfl, hc⟩ := hc
        rw [spreadO_yes h1 h2 hc] at h
        simp only [Option.some.injEq, Prod.mk.injEq] at h
        obtain ⟨rfl, rfl, rfl⟩ := h
        exact ⟨rfl, rfl, hc⟩
      · rw [spreadO_no h1 h2 hc] at h; cases h
theorem pe_ways (l : List UInt8) : (pe l = 12 ∧ parseO l = none) ∨ (pe l = 0 ∧ parseO l = some (pq l, pm l)) := by
  cases h : parseO l with
  | none => exact .inl ⟨(parse_none h).2.2, rfl⟩
  | some x => obtain ⟨p, m⟩ := x; obtain ⟨e1, e2, e3⟩ := parse_some h; exact .inr ⟨e3, by rw [e1, e2]⟩
/-- What ParseSpread answers, of what both halves are. -/
theorem spread_how (l : List UInt8) : (pe (hdL l) = 12 ∧ spreadO l = none) ∨ (pe (hdL l) = 0 ∧ pe (tlL l) = 12 ∧ spreadO l = none) ∨
    (pe (hdL l) = 0 ∧ pe (tlL l) = 0 ∧ pq (tlL l) ≠ pq (hdL l) ∧ spreadO l = none) ∨ (pe (hdL l) = 0 ∧ pe (tlL l) = 0 ∧ pq (tlL l) = pq (hdL l) ∧ pm (tlL l) ≤ pm (hdL l) ∧ spreadO l = none) ∨
    (pe (hdL l) = 0 ∧ pe (tlL l) = 0 ∧ pq (tlL l) = pq (hdL l) ∧ pm (hdL l) < pm (tlL l) ∧ spreadO l = some (pq (hdL l), pm (hdL l), pm (tlL l))) := by
  rcases pe_ways (hdL l) with ⟨h1, h2⟩ | ⟨h1, h2⟩
  · exact .inl ⟨h1, spreadO_hd h2⟩
  · rcases pe_ways (tlL l) with ⟨h3, h4⟩ | ⟨h3, h4⟩
    · exact .inr (.inl ⟨h1, h3, spreadO_tl h4⟩)
    · by_cases hq : pq (tlL l) = pq (hdL l)
      · by_cases hm : pm (hdL l) < pm (tlL l)
        · rw [hq] at h4
          exact .inr (.inr (.inr (.inr ⟨h1, h3, hq, hm, spreadO_yes h2 h4 hm⟩)))
        · exact .inr (.inr (.inr (.inl ⟨h1, h3, hq, by omega, spreadO_no h2 h4 (fun h => hm h.2)⟩)))
      · exact .inr (.inr (.inl ⟨h1, h3, hq, spreadO_no h2 h4 (fun h => hq h.1.symm)⟩))
theorem pm_le (l : List UInt8) : pm l ≤ 1199 := by
  rcases pe_ways l with ⟨h1, h2⟩ | ⟨h1, h2⟩
  · rw [(parse_none h2).2.1]; omega
  · have := (code_of h2).2.1; omega

theorem str_neq {a b : List UInt8} (h : a ≠ b) : ((str a).toList == (str b).toList) = false := by
  rw [ByteArray.toList_eq, ByteArray.toList_eq]
  exact beq_eq_false_iff_ne.2 h
theorem results_tmp4 {fn : Func} {a b c d : Tmp} (h : fn.results = #[.tmp a, .tmp b, .tmp c, .tmp d]) (tmps : Array Value) (P : Program) (w : World) :
    (results fn tmps).run P w = .ok (.tuple #[tmps.getD a undef, tmps.getD b undef, tmps.getD c undef, tmps.getD d undef]) w := by
  simp [results, h]
set_option maxRecDepth 100000 in
set_option maxHeartbeats 2000000 in
theorem ParseSpread_go (l a b p q P : List UInt8) (n f e1 e2 N F E : Nat) (w : World) (hs : l.length ≤ 140737488355328) (al : a.length ≤ 140737488355328) (bl : b.length ≤ 140737488355328) (ha : Hid (hdL l = a)) (hb : Hid (tlL l = b))
    (h1 : Hid (pq a = p)) (h2 : Hid (pm a = n)) (h3 : Hid (pe a = e1)) (h4 : Hid (pq b = q)) (h5 : Hid (pm b = f)) (h6 : Hid (pe b = e2)) (n1 : n ≤ 1199) (f1 : f ≤ 1199)
    (H : (e1 = 12 ∧ E = 12 ∧ P = [] ∧ N = 0 ∧ F = 0) ∨ (e1 = 0 ∧ e2 = 12 ∧ E = 12 ∧ P = [] ∧ N = 0 ∧ F = 0) ∨ (e1 = 0 ∧ e2 = 0 ∧ q ≠ p ∧ E = 12 ∧ P = [] ∧ N = 0 ∧ F = 0) ∨
      (e1 = 0 ∧ e2 = 0 ∧ q = p ∧ f ≤ n ∧ E = 12 ∧ P = [] ∧ N = 0 ∧ F = 0) ∨ (e1 = 0 ∧ e2 = 0 ∧ q = p ∧ n < f ∧ E = 0 ∧ P = p ∧ N = n ∧ F = f)) :
    Calls Try.prog 18 #[.string (str l)] w fun e w' => e = .returned (.tuple #[.string (str P), .int .i64 N, .int .i64 F, .int .i64 E]) ∧ Below w.heap.size w w' := by
  go_enter Try.func18, Try.ntmps18
  go_wp2_with fail
  refine (Halves_any l _ hs).mono ?_
  rintro e w1 ⟨rfl, bw⟩
  rw [ha.out, hb.out]
  have B1 := Lib.hid bw
  clear bw
  go_wp2_with fail
  refine (Parse_any a _ al).mono ?_
  rintro e w2 ⟨rfl, bw⟩
  rw [h1.out, h2.out, h3.out]
  have B2 := Lib.hid (B1.out.trans (bw.mono B1.out.size))
  clear bw
  rcases H with ⟨rfl, rfl, rfl, rfl, rfl⟩ | ⟨rfl, rfl, rfl, rfl, rfl, rfl⟩ | ⟨rfl, rfl, hq, rfl, rfl, rfl, rfl⟩ | ⟨rfl, rfl, rfl, hm, rfl, rfl, rfl, rfl⟩ | ⟨rfl, rfl, rfl, hm, rfl, rfl, rfl, rfl⟩
  · go_wp2_with fail
    (try simp only [Exit.inBlock, Exit.then]); refine bodyPost_ret (results_tmp4 rfl _ _ _) rfl ?_
    exact ⟨rfl, B2.out⟩
  all_goals
    go_wp2_with fail
    refine (Parse_any b _ bl).mono ?_
    rintro e w3 ⟨rfl, bw⟩
    rw [h4.out, h5.out, h6.out]
    have B3 := Lib.hid (B2.out.trans (bw.mono B2.out.size))
    clear bw
  · go_wp2_with fail
    (try simp only [Exit.inBlock, Exit.then]); refine bodyPost_ret (results_tmp4 rfl _ _ _) rfl ?_
    exact ⟨rfl, B3.out⟩
  · have hne := str_neq hq
    clear hq
    go_wp2_with fail
    (try simp only [Exit.inBlock, Exit.then]); refine bodyPost_ret (results_tmp4 rfl _ _ _) rfl ?_
    exact ⟨rfl, B3.out⟩
  · have hd : decide ((f : Int) ≤ n) = true := decide_eq_true (by omega)
    have hd2 : decide (f ≤ n) = true := decide_eq_true (by omega)
    go_wp2_with fail
    (try simp only [Exit.inBlock, Exit.then]); refine bodyPost_ret (results_tmp4 rfl _ _ _) rfl ?_
    exact ⟨rfl, B3.out⟩
  · have hd : decide ((F : Int) ≤ N) = false := decide_eq_false (by omega)
    have hd2 : decide (F ≤ N) = false := decide_eq_false (by omega)
    go_wp2_with fail
    (try simp only [Exit.inBlock, Exit.then]); refine bodyPost_ret (results_tmp4 rfl _ _ _) rfl ?_
    exact ⟨rfl, B3.out⟩
theorem ParseSpread_any (l : List UInt8) (w : World) (hs : l.length ≤ 140737488355328) :
    Calls Try.prog 18 #[.string (str l)] w fun e w' => e = .returned (.tuple #[.string (str (sq l)), .int .i64 (sn l), .int .i64 (sf l), .int .i64 (se l)]) ∧ Below w.heap.size w w' := by
  have a1 := hdL_len l
  have a2 := tlL_len l
  refine ParseSpread_go l _ _ _ _ _ _ _ _ _ _ _ _ w hs (by omega) (by omega) (Lib.hid rfl) (Lib.hid rfl) (Lib.hid rfl) (Lib.hid rfl) (Lib.hid rfl) (Lib.hid rfl) (Lib.hid rfl) (Lib.hid rfl) (pm_le _) (pm_le _) ?_
  rcases spread_how l with ⟨h1, h2⟩ | ⟨h1, h2, h3⟩ | ⟨h1, h2, h3, h4⟩ | ⟨h1, h2, h3, h4, h5⟩ | ⟨h1, h2, h3, h4, h5⟩
  · obtain ⟨e1, e2, e3, e4⟩ := spread_none h2
    exact .inl ⟨h1, e4, e1, e2, e3⟩
  · obtain ⟨e1, e2, e3, e4⟩ := spread_none h3
    exact .inr (.inl ⟨h1, h2, e4, e1, e2, e3⟩)
  · obtain ⟨e1, e2, e3, e4⟩ := spread_none h4
    exact .inr (.inr (.inl ⟨h1, h2, h3, e4, e1, e2, e3⟩))
  · obtain ⟨e1, e2, e3, e4⟩ := spread_none h5
    exact .inr (.inr (.inr (.inl ⟨h1, h2, h3, h4, e4, e1, e2, e3⟩)))
  · obtain ⟨e1, e2, e3, e4⟩ := spread_some h5
    exact .inr (.inr (.inr (.inr ⟨h1, h2, h3, h4, e4, e1, e2, e3⟩)))
end Go.Proofs.Ytfhegnmfkmolbaa
