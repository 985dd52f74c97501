/-
  slices.Insert and slices.Delete of one row of prices.
-/
import Derived.Test.YtlknlicokacoiaaBkMem
import Derived.Lib.Overlaps
import Derived.Lib.AppendZerosOnto
import Derived.Laws.Externs
import Derived.Laws.CopyOwn
import Derived.Deep.RegionLaw
import Derived.Lib.Walk
namespace Go.Proofs.Ytlknlicokacoiaa
open Go.RowKit
set_option linter.unusedVariables false
set_option linter.unusedSimpArgs false

/-- As many elements as the shorter holds go over, whatever an element's size. -/
theorem run_copy_k {P : Program} (w : World) (dT sT ty elem : TypeId) (k g o dLen dCap : Nat) (a : Addr) (sLen sCap m : Nat) (cur : Array Value) (t : TypeId) (cs : List Value)
    (hu : P.underlying dT = some (.slice elem)) (hs : (P.info? elem).map (·.size) = some k)
    (hg : w.heap[g]? = some (.cells cur t (0, 0))) (hm : Nat.min sLen dLen = m) (hn : cs.length = m * k)
    (hsrc : ∀ j v, cs[j]? = some v → w.cell? (a.add j) = some v) (hfit : o + cs.length ≤ cur.size) (h1 : ∀ v ∈ cs, v.oneCell' = true) :
    (Builtin.copy_ #[dT, sT] ty #[.slice (some ⟨g, o, none⟩) dLen dCap, .slice (some a) sLen sCap]).run P w =
      .ok (goInt m) (w.setRow g (splice cur.toList o cs).toArray) := by
  have hl := run_loadCells_list (P := P) w a cs hsrc
  have hst := run_storeCells_at P g o t cs 0 cur w hg (by simpa using hfit) h1
  cases hq : P.info? elem with
  | none => simp [hq] at hs
  | some i =>
    have hi : i.size = k := by simpa [hq] using hs
    rw [hn] at hl
    simp only [Nat.add_zero] at hst
    simp [Builtin.copy_, run_underlying hu, Builtin.lenOf, Builtin.firstCells, sizeOf, typeInfo, hq, hi, hm, hl, hst, splice]
theorem wpList_copy_k {P : Program} (w : World) {ops : Array Oper} {rest : List Oper} {o : Oper} {a : Act} {Q : Exit → Act → World → Prop} (hgd : o.guard = none) (d s : Operand) (t t' : TypeId)
    (ho : o.op = .call { callee := .builtin .copy, args := #[d, s], argTypes := #[t, t'] }) (v u : Value) (hd : a.eval d = v) (hs : a.eval s = u) {v' : Value} {w' : World}
    (hr : (Builtin.copy_ #[t, t'] o.type #[v, u]).run P w = .ok v' w') (h : wpList P ops Q rest (a.put o.dst v') w') : wpList P ops Q (o :: rest) a w := by
  refine wpList_plain hgd fun K hK => ?_
  unfold Oper.wp
  simp [execOp, ho, resolve, invoke, builtin, hd, hs, hr, Result.andThen]
  exact hK _ _ h
theorem step_copy_k {P : Program} {ops : Array Oper} {o : Oper} {a : Act} {w : World} {K : Act → World → Prop} {Q : Exit → Act → World → Prop} {E : Prop}
    (hg : o.guard = none) (d x : Operand) (dT sT : TypeId) (hop : o.op = Op.call { callee := Callee.builtin Builtin.copy, args := #[d, x], argTypes := #[dT, sT] })
    (v u : Value) (hd : a.eval d = v) (hx : a.eval x = u) {v' : Value} {w' : World} (hr : (Builtin.copy_ #[dT, sT] o.type #[v, u]).run P w = .ok v' w') (hK : K (a.put o.dst v') w') :
    if Region.wanted o (yielded ops a.tmps) = true then Oper.wp P o a w K Q else E := by
  have hw : Region.wanted o (yielded ops a.tmps) = true := by simp [Region.wanted, hg]
  rw [if_pos hw]
  unfold Oper.wp
  simp [execOp, hop, resolve, invoke, builtin, hd, hx, hr, Result.andThen]
  exact hK
theorem info_row : (Try.prog.info? 86).map (fun i => (i.zero, i.size, i.bytes)) = some (some (.agg #[.int .i64 0, .int .i64 0]), 2, 16) := by kernel_rfl
/-- Behind an Insert. -/
def InsPost (w : World) (v : Value) (L : List (Int × Nat)) (e : Ending) (w' : World) : Prop :=
  ∃ v', e = .returned v' ∧ Own fR 86 w' 0 v' L ∧ Only (fun k => v.ownBlock = some k) w w' ∧ (∀ k, v'.ownBlock = some k → v.ownBlock = some k ∨ w.heap.size ≤ k)
theorem hv_one {w : World} {h : Nat} {T : TypeId} {p : Int} {q : Nat} (hh : w.heap[h]? = some (.cells #[.int .i64 p, .int .i64 (q : Int)] T (0, 0))) : HV fR w (some ⟨h, 0, none⟩) 1 [(p, q)] := by
  refine ⟨rfl, fun j x hx => ⟨h, 0, rfl, fun m u hu => ?_⟩⟩
  have hj : j = 0 := by have := (List.getElem?_eq_some_iff.1 hx).1; simpa using this
  subst hj
  simp at hx; subst hx
  rw [Nat.zero_mul, Nat.zero_add, Lib.cell_of_heap hh, ← hu]
  match m with
  | 0 => rfl
  | 1 => rfl
  | m + 2 => rfl
set_option maxRecDepth 100000 in
set_option maxHeartbeats 2000000 in
theorem Insert_end (v : Value) (R : List (Int × Nat)) (n h : Nat) (p : Int) (q : Nat) (w : World) (hn : R.length = n) (ho : Hid (Own fR 86 w 0 v R)) (hs : n ≤ 100000) (hh : Hid (w.heap[h]? = some (.cells #[.int .i64 p, .int .i64 (q : Int)] 86 (0, 0)))) :
    Calls Try.prog 38 #[v, .int .i64 (n : Int), .slice (some ⟨h, 0, none⟩) 1 1] w (InsPost w v (R ++ [(p, q)])) := by
  obtain ⟨A, cap, ev, -, h1, h2, h3, -⟩ := ho.out.slice
  obtain ⟨i0, hi0, hz0, hz1, hz2⟩ := info_parts info_row
  have hv := hv_one hh.out
  rw [hn] at ev h1
  replace hn := Lib.hid hn
  obtain ⟨K0, eK⟩ : ∃ K, InsPost w v (R ++ [(p, q)]) = K := ⟨_, rfl⟩
  rw [eK]
  replace eK := Lib.hid eK
  subst ev
  have fin : Hid (∀ v' w', Own fR 86 w' 0 v' (R ++ [(p, q)]) → w.grownBy w' (Value.slice A n cap).ownBlock → (v'.ownBlock = (Value.slice A n cap).ownBlock ∨ v'.ownBlock = some w.heap.size) → K0 (.returned v') w') := Lib.hid (fun v' w' o' g' b' => by
    rw [← eK.out]
    refine ⟨_, rfl, o', (only_grown g').mono (fun k _ e => e.symm), fun k hk => ?_⟩
    rcases b' with e | e
    · exact .inl (e ▸ hk)
    · rw [e] at hk; injection hk with hk; exact .inr (by omega))
  clear eK
  by_cases hcap : cap = n
  · subst hcap
    go_enter Try.func38, Try.ntmps38
    go_wp2_with (at_builtin; refine wpList_onto_g (fm := fR) (T := 86) rfl (.tmp 23) (.tmp 24) 61 rfl 0 i0 (.agg #[.int .i64 0, .int .i64 0]) 16 Try.underlying61 hi0 hz0 hz1 hz2 rfl (by decide) (.slice A cap cap) R rfl ho.out (some ⟨h, 0, none⟩) 1 1 [(p, q)] rfl hv (fun e => by cases e) (by rw [hn.out]; omega) (Nat.zero_le _) ?_)
    intro v' w' o' g' b'
    have fin2 := Lib.hid (fin.out v' w' o' g' b')
    clear o' g' b' fin
    go_wp2_with fail
    (try go_ret)
    exact fin2.out
  · go_enter Try.func38, Try.ntmps38
    go_wp2_with (at_builtin; refine wpList_onto_g (fm := fR) (T := 86) rfl (.tmp 23) (.tmp 24) 61 rfl 0 i0 (.agg #[.int .i64 0, .int .i64 0]) 16 Try.underlying61 hi0 hz0 hz1 hz2 rfl (by decide) (.slice A n cap) R rfl ho.out (some ⟨h, 0, none⟩) 1 1 [(p, q)] rfl hv (fun e => by cases e) (by rw [hn.out]; omega) (Nat.zero_le _) ?_)
    intro v' w' o' g' b'
    have fin2 := Lib.hid (fin.out v' w' o' g' b')
    clear o' g' b' fin
    go_wp2_with fail
    (try go_ret)
    exact fin2.out

theorem splice_rows (R : List (Int × Nat)) (cur : List Value) (n at' : Nat) (p : Int) (q : Nat) (hn : R.length = n) (ha : at' ≤ n) (hc : (n + 1) * 2 ≤ cur.length) (ht : cur.take (n * 2) = rowsG fR.f R) :
    (splice (splice cur ((at' + 1) * 2) ((rowsG fR.f R).drop (at' * 2))) (at' * 2) [.int .i64 p, .int .i64 (q : Int)]).take ((n + 1) * 2) = rowsG fR.f (R.take at' ++ (p, q) :: R.drop at') := by
  have e1 : rowsG fR.f (R.take at' ++ (p, q) :: R.drop at') = (rowsG fR.f R).take (at' * 2) ++ ([.int .i64 p, .int .i64 (q : Int)] ++ (rowsG fR.f R).drop (at' * 2)) := by
    rw [rowsG_app, show (rowsG fR.f R).take (at' * 2) = (rowsG fR.f R).take (at' * fR.k) from rfl, show (rowsG fR.f R).drop (at' * 2) = (rowsG fR.f R).drop (at' * fR.k) from rfl, rowsG_take, rowsG_drop]; rfl
  rw [e1]
  obtain ⟨Z, eZ⟩ : ∃ Z, rowsG fR.f R = Z := ⟨_, rfl⟩
  have hZ : Z.length = n * 2 := by rw [← eZ, rowsG_len, hn]; rfl
  rw [eZ] at ht ⊢
  have hl2 : (Z.drop (at' * 2)).length = n * 2 - at' * 2 := by rw [List.length_drop, hZ]
  have e2 : splice cur ((at' + 1) * 2) (Z.drop (at' * 2)) = cur.take ((at' + 1) * 2) ++ (Z.drop (at' * 2) ++ cur.drop ((n + 1) * 2)) := by
    unfold splice; rw [hl2, show (at' + 1) * 2 + (n * 2 - at' * 2) = (n + 1) * 2 by omega]
  rw [e2]
  have h3 : (cur.take ((at' + 1) * 2)).length = (at' + 1) * 2 := by rw [List.length_take]; omega
  have e4 : cur.take (at' * 2) = Z.take (at' * 2) := by rw [← ht, List.take_take]; congr 1; omega
  have t1 : (cur.take ((at' + 1) * 2) ++ (Z.drop (at' * 2) ++ cur.drop ((n + 1) * 2))).take (at' * 2) = Z.take (at' * 2) := by
    rw [List.take_append_of_le_length (by omega), List.take_take, show min (at' * 2) ((at' + 1) * 2) = at' * 2 by omega, e4]
  have t2 : (cur.take ((at' + 1) * 2) ++ (Z.drop (at' * 2) ++ cur.drop ((n + 1) * 2))).drop ((at' + 1) * 2) = Z.drop (at' * 2) ++ cur.drop ((n + 1) * 2) := by
    rw [List.drop_append_of_le_length (by omega), List.drop_of_length_le (by omega), List.nil_append]
  unfold splice
  rw [t1, show at' * 2 + [Value.int .i64 p, .int .i64 (q : Int)].length = (at' + 1) * 2 by simp; omega, t2]
  have h5 : (Z.take (at' * 2) ++ ([Value.int .i64 p, .int .i64 (q : Int)] ++ Z.drop (at' * 2))).length = (n + 1) * 2 := by
    simp only [List.length_append, List.length_take, hl2, hZ, List.length_cons, List.length_nil]; omega
  rw [show Z.take (at' * 2) ++ ([Value.int .i64 p, .int .i64 (q : Int)] ++ (Z.drop (at' * 2) ++ cur.drop ((n + 1) * 2))) = (Z.take (at' * 2) ++ ([Value.int .i64 p, .int .i64 (q : Int)] ++ Z.drop (at' * 2))) ++ cur.drop ((n + 1) * 2) by simp only [List.append_assoc]]
  rw [List.take_append_of_le_length (by omega), List.take_of_length_le (by omega)]
theorem splice_len {α : Type} (cur : List α) (o : Nat) (cs : List α) (h : o + cs.length ≤ cur.length) : (splice cur o cs).length = cur.length := length_splice cur o cs h
set_option maxRecDepth 100000 in
set_option maxHeartbeats 2000000 in
theorem Insert_room (g n cap at' h : Nat) (R : List (Int × Nat)) (p : Int) (q : Nat) (w : World) (hn : R.length = n) (ho : Hid (Own fR 86 w 0 (.slice (some ⟨g, 0, none⟩) n cap) R)) (hs : n ≤ 100000) (hat : at' < n) (hroom : n + 1 ≤ cap) (hc63 : cap ≤ 9223372036854775807) (hh : Hid (w.heap[h]? = some (.cells #[.int .i64 p, .int .i64 (q : Int)] 86 (0, 0)))) (hne : h ≠ g) :
    Calls Try.prog 38 #[.slice (some ⟨g, 0, none⟩) n cap, .int .i64 (at' : Int), .slice (some ⟨h, 0, none⟩) 1 1] w (InsPost w (.slice (some ⟨g, 0, none⟩) n cap) (R.take at' ++ (p, q) :: R.drop at')) := by
  obtain ⟨g', cap', cur, ev, -, -, hg, b3, b4, b5, b6⟩ := ho.out.open' (by omega)
  injection ev with e1 e2 e3
  injection e1 with e1
  injection e1 with e1
  subst e1; subst e3
  rw [hn] at b3 b6
  have hcl : (n + 1) * 2 ≤ cur.toList.length := by
    rw [Array.length_toList, b5]; show (n + 1) * 2 ≤ cap * 2; omega
  have hZl : (rowsG fR.f R).length = n * 2 := by rw [rowsG_len, hn]; rfl
  have hZd : ((rowsG fR.f R).drop (at' * 2)).length = (n - at') * 2 := by rw [List.length_drop, hZl]; omega
  have hrows := Lib.hid (splice_rows R cur.toList n at' p q hn (by omega) hcl b6)
  have hcell : ∀ j u, ((rowsG fR.f R).drop (at' * 2))[j]? = some u → w.cell? ((⟨g, at' * 2, none⟩ : Addr).add j) = some u := fun j u hj => by
    rw [WideShapes.add_plain, Lib.cell_of_heap hg]
    rw [List.getElem?_drop, ← b6, List.getElem?_take] at hj
    split at hj
    · rw [Array.getElem?_toList] at hj; exact hj
    · cases hj
  have hcp1 : ∀ ty sc dc, (Builtin.copy_ #[61, 61] ty #[.slice (some ⟨g, (at' + 1) * 2, none⟩) (n - at') dc, .slice (some ⟨g, at' * 2, none⟩) (n + 1 - at') sc]).run Try.prog w.drew = .ok (goInt ((n - at' : Nat) : Int)) (w.drew.setRow g (splice cur.toList ((at' + 1) * 2) ((rowsG fR.f R).drop (at' * 2))).toArray) := fun ty sc dc =>
    run_copy_k (P := Try.prog) w.drew 61 61 ty 86 2 g ((at' + 1) * 2) (n - at') dc ⟨g, at' * 2, none⟩ (n + 1 - at') sc (n - at') cur 86 _ Try.underlying61 (by kernel_rfl) hg (by simp only [Nat.min_def]; split <;> omega) hZd hcell (by rw [hZd, b5]; show _ ≤ cap * 2; omega) (fun v hv => rowsG_one_cell R v (List.mem_of_mem_drop hv))
  obtain ⟨W1, hW1⟩ : ∃ W1, w.drew.setRow g (splice cur.toList ((at' + 1) * 2) ((rowsG fR.f R).drop (at' * 2))).toArray = W1 := ⟨_, rfl⟩
  rw [hW1] at hcp1
  obtain ⟨C1, eC1⟩ : ∃ C, splice cur.toList ((at' + 1) * 2) ((rowsG fR.f R).drop (at' * 2)) = C := ⟨_, rfl⟩
  rw [eC1] at hW1 hrows
  have hC1 : C1.length = cap * 2 := by
    rw [← eC1, splice_len _ _ _ (by rw [hZd]; omega), Array.length_toList, b5]; rfl
  have hg1 : W1.heap[g]? = some (.cells C1.toArray 86 (0, 0)) := by rw [← hW1]; exact setRow_heap w.drew g cur _ _ _ hg
  have O1 : Only (fun k => k = g) w W1 := by
    rw [← hW1]; exact ⟨rfl, rfl, rfl, by simp [World.setRow], fun k hk hn => setRow_other w.drew g k _ hn⟩
  have hh1 : W1.heap[h]? = some (.cells #[.int .i64 p, .int .i64 (q : Int)] 86 (0, 0)) := (O1.block h (Array.getElem?_eq_some_iff.1 hh.out).1 hne).trans hh.out
  have hcp2 : ∀ ty dc, (Builtin.copy_ #[61, 61] ty #[.slice (some ⟨g, at' * 2, none⟩) (n + 1 - at') dc, .slice (some ⟨h, 0, none⟩) 1 1]).run Try.prog W1 = .ok (goInt 1) (W1.setRow g (splice C1 (at' * 2) [.int .i64 p, .int .i64 (q : Int)]).toArray) := fun ty dc => by
    have := run_copy_k (P := Try.prog) W1 61 61 ty 86 2 g (at' * 2) (n + 1 - at') dc ⟨h, 0, none⟩ 1 1 1 C1.toArray 86 [.int .i64 p, .int .i64 (q : Int)] Try.underlying61 (by kernel_rfl) hg1 (by simp only [Nat.min_def]; split <;> omega) rfl (fun j v hj => (hv_one hh1).news j v hj) (by simp; omega) (ints_oneCell .i64 [p, (q : Int)])
    exact this
  obtain ⟨W2, hW2⟩ : ∃ W, W1.setRow g (splice C1 (at' * 2) [.int .i64 p, .int .i64 (q : Int)]).toArray = W := ⟨_, rfl⟩
  rw [hW2] at hcp2
  have fin : Hid (InsPost w (.slice (some ⟨g, 0, none⟩) n cap) (R.take at' ++ (p, q) :: R.drop at') (.returned (.slice (some ⟨g, 0, none⟩) (n + 1) cap)) W2) := Lib.hid (by
    have O2 : Only (fun k => k = g) W1 W2 := by
      rw [← hW2]; exact ⟨rfl, rfl, rfl, by simp [World.setRow], fun k hk hn => setRow_other W1 g k _ hn⟩
    have hlen : (R.take at' ++ (p, q) :: R.drop at').length = n + 1 := by simp only [List.length_append, List.length_take, List.length_cons, List.length_drop, hn]; omega
    refine ⟨_, rfl, ⟨rowsG_len _, .inr ⟨g, cap, _, by rw [hlen], Nat.zero_le _, by rw [← hW2]; exact setRow_heap W1 g _ _ _ _ hg1, by rw [hlen]; exact hroom, b4, ?_, ?_⟩⟩, (O1.trans O2).mono (fun k _ e => by rw [e]; rfl), fun k hk => .inl hk⟩
    · rw [List.size_toArray, splice_len _ _ _ (by simp; omega), hC1]; rfl
    · rw [hlen]; exact hrows.out)
  have hov : ∀ lb cb, (callFunc 55 #[.slice (some ⟨h, 0, none⟩) 1 1, .slice (some ⟨g, (at' + 1) * 2, none⟩) lb cb]).run Try.prog w = .ok (.value (.bool false)) w := fun lb cb => by
    rw [run_callFunc_extern Try.func55 (by kernel_rfl) (by kernel_rfl) (by kernel_rfl) (e := Extern.SlicesOverlaps.overlaps #[61, 61] #[4]) (by kernel_rfl),
      Lib.run_overlaps_apart w 61 4 86 Try.underlying61 2 (fun W => by kernel_rfl) ⟨h, 0, none⟩ ⟨g, (at' + 1) * 2, none⟩ 1 1 lb cb hne 86 86 2 cur.size (by simp [World.shape?, hh.out]) (by simp [World.shape?, hg]) (by rw [b5]; show cap * 2 ≠ 0; omega) (Lib.frozen_of_heap hh.out 0) (Lib.frozen_of_heap hh.out 2)]
    rfl
  have hd1 : IntKind.i64.wrap ((at' : Int) + 1) = (at' : Int) + 1 := IntWalk.i64_in _ (by omega)
  have hd2 : ¬ ((at' : Int) = (n : Int)) := by omega
  have hd3 : ((at' : Int) == (n : Int)) = false := by simpa using hd2
  have hd4 : ¬ (cap = at' + 1) := by omega
  have hd5 : ¬ (cap = at') := by omega
  have hd6 : ¬ (cap < n + 1) := by omega
  have hb1 : (0 : Int) ≤ (at' : Int) + 1 := by omega
  have hin : at' ≤ n := by omega
  have hin2 : at' ≤ n + 1 := by omega
  have htn : ((at' : Int) + 1).toNat = at' + 1 := by omega
  have hb3 : (at' : Int) + 1 ≤ (n : Int) + 1 := by omega
  have hb4 : (at' : Int) ≤ (n : Int) + 1 := by omega
  replace hn := Lib.hid hn
  clear hcell hZd hZl hcl eC1 hC1 hrows hW2 hW1 hg1 O1 hh1 hg b5 b6 b4 e2
  rename_i z1 z2
  clear z1 z2
  go_enter Try.func38, Try.ntmps38
  go_wp2_with (simp only [hov])
  go_region_law (refine step_copy_k rfl _ _ 61 61 rfl _ _ (by simp [Act.eval, Act.put]) (by simp [Act.eval, Act.put]) (hcp1 _ _ _) ?_)
  go_wp2_with (at_builtin; refine wpList_copy_k _ rfl _ _ 61 61 rfl _ _ rfl rfl (hcp2 _ _) ?_)
  (try go_ret)
  exact fin.out
theorem splice_rows2 (Z cur : List Value) (n at' : Nat) (X : List Value) (hX : X.length = 2) (hZ : Z.length = n * 2) (ha : at' ≤ n) (hc : (n + 1) * 2 ≤ cur.length) (ht : cur.take (at' * 2) = Z.take (at' * 2)) :
    (splice (splice cur (at' * 2) X) ((at' + 1) * 2) (Z.drop (at' * 2))).take ((n + 1) * 2) = Z.take (at' * 2) ++ (X ++ Z.drop (at' * 2)) := by
  have e2 : splice cur (at' * 2) X = (cur.take (at' * 2) ++ X) ++ cur.drop ((at' + 1) * 2) := by
    unfold splice; rw [hX, show at' * 2 + 2 = (at' + 1) * 2 by omega, List.append_assoc]
  have h3 : (cur.take (at' * 2) ++ X).length = (at' + 1) * 2 := by rw [List.length_append, List.length_take, hX]; omega
  rw [e2]
  have t1 : ((cur.take (at' * 2) ++ X) ++ cur.drop ((at' + 1) * 2)).take ((at' + 1) * 2) = Z.take (at' * 2) ++ X := by
    rw [List.take_append_of_le_length (by omega), List.take_of_length_le (by omega), ht]
  unfold splice
  rw [t1, List.append_assoc, ← List.append_assoc X, ← List.append_assoc (Z.take (at' * 2))]
  have hl2 : (Z.drop (at' * 2)).length = n * 2 - at' * 2 := by rw [List.length_drop, hZ]
  rw [List.take_append_of_le_length (by simp only [List.length_append, List.length_take, hl2, hZ, hX]; omega), List.take_of_length_le (by simp only [List.length_append, List.length_take, hl2, hZ, hX]; omega)]
theorem splice_take {α : Type} (cur : List α) (o : Nat) (cs : List α) (h : o ≤ cur.length) : (splice cur o cs).take o = cur.take o := by
  unfold splice
  rw [List.take_append_of_le_length (by rw [List.length_take]; omega), List.take_of_length_le (by rw [List.length_take]; omega)]
set_option maxRecDepth 100000 in
set_option maxHeartbeats 2000000 in
theorem Insert_grow (g n at' h : Nat) (R : List (Int × Nat)) (p : Int) (q : Nat) (w : World) (hn : R.length = n) (ho : Hid (Own fR 86 w 0 (.slice (some ⟨g, 0, none⟩) n n) R)) (hs : n ≤ 100000) (hat : at' < n) (hh : Hid (w.heap[h]? = some (.cells #[.int .i64 p, .int .i64 (q : Int)] 86 (0, 0)))) (hne : h ≠ g) :
    Calls Try.prog 38 #[.slice (some ⟨g, 0, none⟩) n n, .int .i64 (at' : Int), .slice (some ⟨h, 0, none⟩) 1 1] w (InsPost w (.slice (some ⟨g, 0, none⟩) n n) (R.take at' ++ (p, q) :: R.drop at')) := by
  obtain ⟨g', cap', cur, ev, -, hgl, hg, b3, b4, b5, b6⟩ := ho.out.open' (by omega)
  obtain ⟨i0, hi0, hz0, hzs, hzb⟩ := info_parts info_row
  injection ev with e1 e2 e3
  injection e1 with e1
  injection e1 with e1
  subst e1; subst e3
  rw [hn] at b3 b6
  obtain ⟨Z, eZ⟩ : ∃ Z, rowsG fR.f R = Z := ⟨_, rfl⟩
  have hZl : Z.length = n * 2 := by rw [← eZ, rowsG_len, hn]; rfl
  have b6' : cur.toList.take (n * 2) = Z := by rw [← eZ]; exact b6
  have hone : ∀ v ∈ Z, v.oneCell' = true := by rw [← eZ]; exact rowsG_one_cell R
  have hsp : rowsG fR.f (R.take at' ++ (p, q) :: R.drop at') = Z.take (at' * 2) ++ ([.int .i64 p, .int .i64 (q : Int)] ++ Z.drop (at' * 2)) := by
    rw [← eZ, rowsG_app, show (rowsG fR.f R).take (at' * 2) = (rowsG fR.f R).take (at' * fR.k) from rfl, show (rowsG fR.f R).drop (at' * 2) = (rowsG fR.f R).drop (at' * fR.k) from rfl, rowsG_take, rowsG_drop]; rfl
  have hZc : ∀ j u, Z[j]? = some u → w.cell? ⟨g, j, none⟩ = some u := fun j u hj => by
    rw [Lib.cell_of_heap hg]
    rw [← b6', List.getElem?_take] at hj
    split at hj
    · rw [Array.getElem?_toList] at hj; exact hj
    · cases hj
  have hold : (Builtin.firstCells i0.size at' (.slice (some ⟨g, 0, none⟩) at' n)).run Try.prog w.drew = .ok (Z.take (at' * 2)).toArray w.drew := by
    rw [hzs]
    exact run_firstCells_some w.drew 2 at' ⟨g, 0, none⟩ at' n (Z.take (at' * 2)) (by rw [List.length_take]; omega) (fun j v hj => by
      rw [WideShapes.add_plain]
      rw [List.getElem?_take] at hj
      split at hj
      · rw [Nat.zero_add]; exact hZc j v hj
      · cases hj)
  obtain ⟨G, hG⟩ : ∃ G, grownCap w (n + 1) n 86 = G := ⟨_, rfl⟩
  have hGn : n + 1 ≤ G := by rw [← hG]; exact grownCap_ge w _ _ _
  have hGm : G ≤ maxLen := by rw [← hG]; exact grownCap_le_maxLen w (n + 1) n _ (by unfold maxLen; omega)
  have hkk : (n : Int) + 1 - (at' : Int) = ((n + 1 - at' : Nat) : Int) := by omega
  have hik : at' + (n + 1 - at') = n + 1 := by omega
  have hrz : ∀ ty, (Builtin.append_ #[61, 3] ty #[.slice (some ⟨g, 0, none⟩) at' n, .int .i64 ((n : Int) + 1 - (at' : Int))]).run Try.prog w =
      .ok (.slice (some ⟨w.heap.size, 0, none⟩) (n + 1) G) (w.drew.alloc (.cells ((Z.take (at' * 2)).toArray ++ Builtin.zeroCells (Value.agg #[.int .i64 0, .int .i64 0]).cells (n + 1 - at') ++ Builtin.zeroCells (Value.agg #[.int .i64 0, .int .i64 0]).cells (G - (n + 1))) 86)) := fun ty => by
    have k := Lib.run_append_grow_zeros w 61 3 ty 86 i0 _ .i64 .i64 Try.underlying61 Try.underlying3 hi0 hz0 (some ⟨g, 0, none⟩) at' n (Z.take (at' * 2)) hold (n + 1 - at') (by omega) (by omega) (by omega) (by omega) (by rw [hzb]; omega) (by rw [hzb, hik]; exact growslice_fits (by omega) (by omega))
    rw [hik, hG] at k
    rw [hkk]
    exact k
  obtain ⟨ROW, hROW⟩ : ∃ ROW : Array Value, (Z.take (at' * 2)).toArray ++ Builtin.zeroCells (Value.agg #[.int .i64 0, .int .i64 0]).cells (n + 1 - at') ++ Builtin.zeroCells (Value.agg #[.int .i64 0, .int .i64 0]).cells (G - (n + 1)) = ROW := ⟨_, rfl⟩
  rw [hROW] at hrz
  have hRs : ROW.size = G * 2 := by
    rw [← hROW, Array.size_append, Array.size_append, size_zeroCells, size_zeroCells, List.size_toArray, List.length_take, hZl]
    show min (at' * 2) (n * 2) + (n + 1 - at') * 2 + (G - (n + 1)) * 2 = G * 2
    omega
  have hRt : ROW.toList.take (at' * 2) = Z.take (at' * 2) := by
    rw [← hROW, Array.toList_append, Array.toList_append, List.append_assoc]
    rw [List.take_append_of_le_length (by simp only [List.length_take]; omega), List.take_of_length_le (by simp only [List.length_take]; omega)]
  obtain ⟨hs', ehs⟩ : ∃ x, w.heap.size = x := ⟨_, rfl⟩
  obtain ⟨W1, hW1⟩ : ∃ W1, w.drew.alloc (.cells ROW 86) = W1 := ⟨_, rfl⟩
  rw [hW1, ehs] at hrz
  have hg1 : W1.heap[hs']? = some (.cells ROW 86 (0, 0)) := by rw [← hW1, ← ehs]; exact heap_alloc_new w.drew _
  have B1 : Below w.heap.size w W1 := by rw [← hW1]; exact Below.alloc (Below.refl w.heap.size w).drew (Nat.le_refl _) _
  have hh1 : W1.heap[h]? = some (.cells #[.int .i64 p, .int .i64 (q : Int)] 86 (0, 0)) := (B1.block h (Array.getElem?_eq_some_iff.1 hh.out).1).trans hh.out
  have hc1 : ∀ j u, Z[j]? = some u → W1.cell? ⟨g, j, none⟩ = some u := fun j u hj => (World.cell?_of_block (a := ⟨g, j, none⟩) (B1.block g hgl)).trans (hZc j u hj)
  have hcpA : ∀ ty dc, (Builtin.copy_ #[61, 61] ty #[.slice (some ⟨hs', at' * 2, none⟩) (n + 1 - at') dc, .slice (some ⟨h, 0, none⟩) 1 1]).run Try.prog W1 = .ok (goInt 1) (W1.setRow hs' (splice ROW.toList (at' * 2) [.int .i64 p, .int .i64 (q : Int)]).toArray) := fun ty dc => by
    have := run_copy_k (P := Try.prog) W1 61 61 ty 86 2 hs' (at' * 2) (n + 1 - at') dc ⟨h, 0, none⟩ 1 1 1 ROW 86 [.int .i64 p, .int .i64 (q : Int)] Try.underlying61 (by kernel_rfl) hg1 (by simp only [Nat.min_def]; split <;> omega) rfl (fun j v hj => (hv_one hh1).news j v hj) (by simp; omega) (ints_oneCell .i64 [p, (q : Int)])
    exact this
  obtain ⟨C2, eC2⟩ : ∃ C, splice ROW.toList (at' * 2) [.int .i64 p, .int .i64 (q : Int)] = C := ⟨_, rfl⟩
  rw [eC2] at hcpA
  have hC2 : C2.length = G * 2 := by rw [← eC2, splice_len _ _ _ (by simp; omega), Array.length_toList, hRs]
  obtain ⟨W2, hW2⟩ : ∃ W, W1.setRow hs' C2.toArray = W := ⟨_, rfl⟩
  rw [hW2] at hcpA
  have hg2 : W2.heap[hs']? = some (.cells C2.toArray 86 (0, 0)) := by rw [← hW2]; exact setRow_heap W1 hs' _ _ _ _ hg1
  have hc2 : ∀ j u, Z[j]? = some u → W2.cell? ⟨g, j, none⟩ = some u := fun j u hj => by
    refine (World.cell?_of_block (a := ⟨g, j, none⟩) ?_).trans (hc1 j u hj)
    rw [← hW2]; exact setRow_other W1 hs' g _ (by show g ≠ hs'; omega)
  have hZd : (Z.drop (at' * 2)).length = (n - at') * 2 := by rw [List.length_drop, hZl]; omega
  have hcpB : ∀ ty dc sc, (Builtin.copy_ #[61, 61] ty #[.slice (some ⟨hs', (at' + 1) * 2, none⟩) (n - at') dc, .slice (some ⟨g, at' * 2, none⟩) (n - at') sc]).run Try.prog W2.drew = .ok (goInt ((n - at' : Nat) : Int)) (W2.drew.setRow hs' (splice C2 ((at' + 1) * 2) (Z.drop (at' * 2))).toArray) := fun ty dc sc => by
    have := run_copy_k (P := Try.prog) W2.drew 61 61 ty 86 2 hs' ((at' + 1) * 2) (n - at') dc ⟨g, at' * 2, none⟩ (n - at') sc (n - at') C2.toArray 86 (Z.drop (at' * 2)) Try.underlying61 (by kernel_rfl) hg2 (by simp) hZd (fun j v hj => by rw [WideShapes.add_plain]; rw [List.getElem?_drop] at hj; exact hc2 _ v hj) (by simp; omega) (fun v hv => hone v (List.mem_of_mem_drop hv))
    exact this
  obtain ⟨W3, hW3⟩ : ∃ W, W2.drew.setRow hs' (splice C2 ((at' + 1) * 2) (Z.drop (at' * 2))).toArray = W := ⟨_, rfl⟩
  rw [hW3] at hcpB
  have fin : Hid (InsPost w (.slice (some ⟨g, 0, none⟩) n n) (R.take at' ++ (p, q) :: R.drop at') (.returned (.slice (some ⟨hs', 0, none⟩) (n + 1) G)) W3) := Lib.hid (by
    have B2 : Below w.heap.size w W2 := by rw [← hW2]; exact below_setRow B1 (by omega) _
    have B3 : Below w.heap.size w W3 := by rw [← hW3]; exact below_setRow B2.drew (by omega) _
    have hlen : (R.take at' ++ (p, q) :: R.drop at').length = n + 1 := by simp only [List.length_append, List.length_take, List.length_cons, List.length_drop, hn]; omega
    refine ⟨_, rfl, ⟨rowsG_len _, .inr ⟨hs', G, _, by rw [hlen], Nat.zero_le _, by rw [← hW3]; exact setRow_heap W2.drew hs' _ _ _ _ hg2, by rw [hlen]; exact hGn, hGm, ?_, ?_⟩⟩, (only_below B3).mono (fun _ _ e => e.elim), fun k hk => .inr ?_⟩
    · rw [List.size_toArray, splice_len _ _ _ (by rw [hZd]; omega), hC2]; rfl
    · rw [hlen, hsp, ← eC2]
      exact splice_rows2 Z ROW.toList n at' _ rfl hZl (by omega) (by rw [Array.length_toList, hRs]; omega) hRt
    · have hk' : hs' = k := by injection hk
      omega)
  have hd1 : IntKind.i64.wrap ((at' : Int) + 1) = (at' : Int) + 1 := IntWalk.i64_in _ (by omega)
  have hd2 : ¬ ((at' : Int) = (n : Int)) := by omega
  have hd3 : ((at' : Int) == (n : Int)) = false := by simpa using hd2
  have hd4 : ¬ (G = at' + 1) := by omega
  have hd5 : ¬ (G = at') := by omega
  have hd6 : (n : Int) < (n : Int) + 1 := by omega
  have hd7 : ¬ (n = at') := by omega
  have hb1 : (0 : Int) ≤ (at' : Int) + 1 := by omega
  have hin : at' ≤ n := by omega
  have hin2 : at' ≤ n + 1 := by omega
  have htn : ((at' : Int) + 1).toNat = at' + 1 := by omega
  have hb3 : (at' : Int) + 1 ≤ (n : Int) + 1 := by omega
  have hb4 : (at' : Int) ≤ (n : Int) + 1 := by omega
  have hG63 : G ≤ 9223372036854775807 := by unfold maxLen at hGm; omega
  replace hn := Lib.hid hn
  clear hZl hC2 hW3 hW2 hW1 hg1 hg2 hh1 hg b5 b6 b4 e2 hc1 hc2 hZd hRs hRt hROW hsp eZ b6' hone hZc hold hG hGm hkk hik ehs B1 eC2 hi0 hz0 hzs hzb
  rename_i z1 z2
  clear z1 z2
  go_enter Try.func38, Try.ntmps38
  go_wp2_with (at_builtin; refine Lib.wpList_append_run _ rfl _ _ _ _ rfl _ _ rfl rfl _ _ (hrz _) ?_)
  go_wp2_with (at_builtin; refine wpList_copy_k _ rfl _ _ 61 61 rfl _ _ rfl rfl (hcpA _ _) ?_)
  go_region_law (refine step_copy_k rfl _ _ 61 61 rfl _ _ (by simp [Act.eval, Act.put]) (by simp [Act.eval, Act.put]) (hcpB _ _ _) ?_)
  go_wp2_with fail
  (try go_ret)
  exact fin.out
end Go.Proofs.Ytlknlicokacoiaa
