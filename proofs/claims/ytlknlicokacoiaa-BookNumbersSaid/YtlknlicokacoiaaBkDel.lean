/-
  slices.Insert whole; slices.Delete of one row of prices.
-/
import Derived.Test.YtlknlicokacoiaaBkIns
import Derived.Deep.AppendSrc
namespace Go.Proofs.Ytlknlicokacoiaa
open Go.RowKit
set_option linter.unusedVariables false
set_option linter.unusedSimpArgs false

theorem Insert_any (v : Value) (R : List (Int × Nat)) (at' h : Nat) (p : Int) (q : Nat) (w : World) (ho : Hid (Own fR 86 w 0 v R)) (hs : R.length ≤ 100000) (hat : at' ≤ R.length) (hh : Hid (w.heap[h]? = some (.cells #[.int .i64 p, .int .i64 (q : Int)] 86 (0, 0)))) (hne : v.ownBlock ≠ some h) :
    Calls Try.prog 38 #[v, .int .i64 (at' : Int), .slice (some ⟨h, 0, none⟩) 1 1] w (InsPost w v (R.take at' ++ (p, q) :: R.drop at')) := by
  rcases Nat.lt_or_ge at' R.length with h1 | h1
  · obtain ⟨g, cap, cur, ev, -, -, hg, b3, b4, b5, b6⟩ := ho.out.open' (by omega)
    have hne' : h ≠ g := fun e => hne (by rw [ev, e]; rfl)
    rw [ev] at ho ⊢
    rcases Nat.lt_or_ge R.length cap with h2 | h2
    · exact Insert_room g R.length cap at' h R p q w rfl ho hs h1 (by omega) (by unfold maxLen at b4; omega) hh hne'
    · have e : cap = R.length := by omega
      rw [e] at ho ⊢
      exact Insert_grow g R.length at' h R p q w rfl ho hs h1 hh hne'
  · have e : at' = R.length := by omega
    rw [e, List.take_of_length_le (Nat.le_refl _), List.drop_of_length_le (Nat.le_refl _)]
    exact Insert_end v R R.length h p q w rfl ho hs hh
theorem run_append_room_k {P : Program} (w : World) (t ty e : TypeId) (i : TypeInfo) (k : Nat) (ht : P.underlying t = some (.slice e)) (hi : P.info? e = some i) (hk : i.size = k) (g sLen sCap : Nat) (a : Addr) (n c : Nat) (news : List Value) (cur : Array Value) (T : TypeId)
    (hg : w.heap[g]? = some (.cells cur T (0, 0))) (hl : news.length = n * k) (hsrc : ∀ j v, news[j]? = some v → w.cell? (a.add j) = some v) (h1 : ∀ v ∈ news, v.oneCell' = true) (hroom : sLen + n ≤ sCap) (hfit : sLen * k + news.length ≤ cur.size) :
    (Builtin.append_ #[t, t] ty #[.slice (some ⟨g, 0, none⟩) sLen sCap, .slice (some a) n c]).run P w = .ok (.slice (some ⟨g, 0, none⟩) (sLen + n) sCap) (w.setRow g (splice cur.toList (sLen * k) news).toArray) := by
  subst hk
  have hs : Src P i.size t (.slice (some a) n c) n news w := Src.ofSlice w ht a n c news hl hsrc h1
  have hst := run_storeCells_at P g (sLen * i.size) T news 0 cur w hg (by simpa using hfit) h1
  simp only [Nat.add_zero] at hst
  simp [Builtin.append_, run_underlying ht, sizeOf, typeInfo, hi, hs.len, hroom, hs.cells, Addr.add_lit, hst, splice]
theorem run_clear_one {P : Program} (w : World) (t e ty : TypeId) (z x y : Value) (ht : P.underlying t = some (.slice e)) (hv : ∀ w, (zeroValue e).run P w = .ok z w) (hz : (Builtin.zeroCells z.cells 1).toList = [x, y]) (h1 : x.oneCell' = true) (h2 : y.oneCell' = true) (g o c : Nat) (cur : Array Value) (T : TypeId) (hg : w.heap[g]? = some (.cells cur T (0, 0))) (hfit : o + 2 ≤ cur.size) :
    (Builtin.clear_ #[t] ty #[.slice (some ⟨g, o, none⟩) 1 c]).run P w = .ok (.tuple #[]) (w.setRow g (splice cur.toList o [x, y]).toArray) := by
  have hst := run_storeCells_at P g o T [x, y] 0 cur w hg (by simpa using hfit) (by intro v hv'; simp only [List.mem_cons, List.not_mem_nil, or_false] at hv'; rcases hv' with rfl | rfl <;> assumption)
  simp only [Nat.add_zero] at hst
  simp only [List.append_assoc] at hst
  simp [Builtin.clear_, run_underlying ht, hv, hz, hst, splice]
theorem wpList_clear_k {P : Program} (w : World) {ops : Array Oper} {rest : List Oper} {o : Oper} {a : Act} {Q : Exit → Act → World → Prop} (hgd : o.guard = none) (s : Operand) (t : TypeId)
    (ho : o.op = .call { callee := .builtin .clear, args := #[s], argTypes := #[t] }) (v : Value) (hs : a.eval s = v) {v' : Value} {w' : World}
    (hr : (Builtin.clear_ #[t] o.type #[v]).run P w = .ok v' w') (h : wpList P ops Q rest (a.put o.dst v') w') : wpList P ops Q (o :: rest) a w := by
  refine wpList_plain hgd fun K hK => ?_
  unfold Oper.wp
  simp [execOp, ho, resolve, invoke, builtin, hs, hr, Result.andThen]
  exact hK _ _ h
theorem step_append_run_k {P : Program} {ops : Array Oper} {o : Oper} {a : Act} {w : World} {K : Act → World → Prop} {Q : Exit → Act → World → Prop} {E : Prop}
    (hg : o.guard = none) (d x : Operand) (t : TypeId) (hop : o.op = Op.call { callee := Callee.builtin Builtin.append, args := #[d, x], argTypes := #[t, t] })
    (v u : Value) (hd : a.eval d = v) (hx : a.eval x = u) {v' : Value} {w' : World} (hr : (Builtin.append_ #[t, t] o.type #[v, u]).run P w = .ok v' w') (hK : K (a.put o.dst v') w') :
    if Region.wanted o (yielded ops a.tmps) = true then Oper.wp P o a w K Q else E := by
  have hw : Region.wanted o (yielded ops a.tmps) = true := by simp [Region.wanted, hg]
  rw [if_pos hw]
  unfold Oper.wp
  simp [execOp, hop, resolve, invoke, builtin, hd, hx, hr, Result.andThen]
  exact hK
theorem splice_rows3 (Z cur : List Value) (n m at' : Nat) (X : List Value) (hm : n = m + 1) (hZ : Z.length = n * 2) (ha : at' < n) (hc : n * 2 ≤ cur.length) (ht : cur.take (n * 2) = Z) :
    (splice (splice cur (at' * 2) (Z.drop ((at' + 1) * 2))) (m * 2) X).take (m * 2) = Z.take (at' * 2) ++ Z.drop ((at' + 1) * 2) := by
  have hl2 : (Z.drop ((at' + 1) * 2)).length = n * 2 - (at' + 1) * 2 := by rw [List.length_drop, hZ]
  have hl3 : (splice cur (at' * 2) (Z.drop ((at' + 1) * 2))).length = cur.length := splice_len _ _ _ (by omega)
  rw [splice_take _ _ _ (by omega)]
  have e4 : cur.take (at' * 2) = Z.take (at' * 2) := by rw [← ht, List.take_take]; congr 1; omega
  unfold splice
  rw [e4, ← List.append_assoc]
  have h5 : (Z.take (at' * 2) ++ Z.drop ((at' + 1) * 2)).length = m * 2 := by rw [List.length_append, List.length_take, hl2, hZ]; omega
  rw [List.take_append_of_le_length (by omega), List.take_of_length_le (by omega)]
set_option maxRecDepth 100000 in
set_option maxHeartbeats 2000000 in
theorem Delete_any (v : Value) (R : List (Int × Nat)) (at' : Nat) (w : World) (ho : Hid (Own fR 86 w 0 v R)) (hs : R.length ≤ 100000) (hat : at' < R.length) :
    Calls Try.prog 64 #[v, .int .i64 (at' : Int), .int .i64 ((at' : Int) + 1)] w (InsPost w v (R.take at' ++ R.drop (at' + 1))) := by
  obtain ⟨g, cap, cur, ev, -, hgl, hg, b3, b4, b5, b6⟩ := ho.out.open' (by omega)
  subst ev
  obtain ⟨i0, hi0, hz0, hzs, hzb⟩ := info_parts info_row
  obtain ⟨n, hn⟩ : ∃ n, R.length = n := ⟨_, rfl⟩
  obtain ⟨m, hm⟩ : ∃ m, n = m + 1 := ⟨n - 1, by omega⟩
  rw [hn] at b3 b6 hs hat ⊢
  obtain ⟨Z, eZ⟩ : ∃ Z, rowsG fR.f R = Z := ⟨_, rfl⟩
  have hZl : Z.length = n * 2 := by rw [← eZ, rowsG_len, hn]; rfl
  have b6' : cur.toList.take (n * 2) = Z := by rw [← eZ]; exact b6
  have hone : ∀ v ∈ Z, v.oneCell' = true := by rw [← eZ]; exact rowsG_one_cell R
  have hcs : cur.size = cap * 2 := b5
  have hsp : rowsG fR.f (R.take at' ++ R.drop (at' + 1)) = Z.take (at' * 2) ++ Z.drop ((at' + 1) * 2) := by
    rw [← eZ, rowsG_app, show (rowsG fR.f R).take (at' * 2) = (rowsG fR.f R).take (at' * fR.k) from rfl, show (rowsG fR.f R).drop ((at' + 1) * 2) = (rowsG fR.f R).drop ((at' + 1) * fR.k) from rfl, rowsG_take, rowsG_drop]
  have hZc : ∀ j u, Z[j]? = some u → w.cell? ⟨g, j, none⟩ = some u := fun j u hj => by
    rw [Lib.cell_of_heap hg]
    rw [← b6', List.getElem?_take] at hj
    split at hj
    · rw [Array.getElem?_toList] at hj; exact hj
    · cases hj
  have hZd : (Z.drop ((at' + 1) * 2)).length = (n - (at' + 1)) * 2 := by rw [List.length_drop, hZl]; omega
  obtain ⟨C1, eC1⟩ : ∃ C, splice cur.toList (at' * 2) (Z.drop ((at' + 1) * 2)) = C := ⟨_, rfl⟩
  have hC1 : C1.length = cap * 2 := by rw [← eC1, splice_len _ _ _ (by rw [hZd, Array.length_toList, hcs]; omega), Array.length_toList, hcs]
  obtain ⟨W1, hW1⟩ : ∃ W, w.drew.setRow g C1.toArray = W := ⟨_, rfl⟩
  have hap : ∀ (o : Nat) (ty c2 : Nat), (o = (at' + 1) * 2 ∨ n = at' + 1) → (Builtin.append_ #[61, 61] ty #[.slice (some ⟨g, 0, none⟩) at' cap, .slice (some ⟨g, o, none⟩) (n - (at' + 1)) c2]).run Try.prog w.drew = .ok (.slice (some ⟨g, 0, none⟩) m cap) W1 := fun o ty c2 hor => by
    have := run_append_room_k (P := Try.prog) w.drew 61 ty 86 i0 2 Try.underlying61 hi0 hzs g at' cap ⟨g, o, none⟩ (n - (at' + 1)) c2 (Z.drop ((at' + 1) * 2)) cur 86 hg hZd (fun j u hj => by
      rw [WideShapes.add_plain]
      rcases hor with rfl | e
      · rw [List.getElem?_drop] at hj; exact hZc _ u hj
      · rw [List.drop_of_length_le (by omega)] at hj; simp at hj) (fun v hv => hone v (List.mem_of_mem_drop hv)) (by omega) (by rw [hZd, hcs]; omega)
    rw [eC1, hW1, show at' + (n - (at' + 1)) = m by omega] at this
    exact this
  have hg1 : W1.heap[g]? = some (.cells C1.toArray 86 (0, 0)) := by rw [← hW1]; exact setRow_heap w.drew g cur _ _ _ hg
  obtain ⟨W2, hW2⟩ : ∃ W, W1.setRow g (splice C1 (m * 2) [.int .i64 0, .int .i64 0]).toArray = W := ⟨_, rfl⟩
  have hcl : ∀ ty c2, (Builtin.clear_ #[61] ty #[.slice (some ⟨g, m * 2, none⟩) (n - m) c2]).run Try.prog W1 = .ok (.tuple #[]) W2 := fun ty c2 => by
    have := run_clear_one (P := Try.prog) W1 61 86 ty (.agg #[.int .i64 0, .int .i64 0]) (.int .i64 0) (.int .i64 0) Try.underlying61 (fun W => by kernel_rfl) (by kernel_rfl) rfl rfl g (m * 2) c2 C1.toArray 86 hg1 (by rw [List.size_toArray, hC1]; omega)
    rw [show (C1.toArray.toList) = C1 from rfl, hW2] at this
    rw [show n - m = 1 by omega]
    exact this
  have fin : Hid (InsPost w (.slice (some ⟨g, 0, none⟩) n cap) (R.take at' ++ R.drop (at' + 1)) (.returned (.slice (some ⟨g, 0, none⟩) m cap)) W2) := Lib.hid (by
    have O1 : Only (fun k => k = g) w W1 := by
      rw [← hW1]; exact ⟨rfl, rfl, rfl, by simp [World.setRow], fun k hk hn => setRow_other w.drew g k _ hn⟩
    have O2 : Only (fun k => k = g) W1 W2 := by
      rw [← hW2]; exact ⟨rfl, rfl, rfl, by simp [World.setRow], fun k hk hn => setRow_other W1 g k _ hn⟩
    have hlen : (R.take at' ++ R.drop (at' + 1)).length = m := by simp only [List.length_append, List.length_take, List.length_drop, hn]; omega
    refine ⟨_, rfl, ⟨rowsG_len _, .inr ⟨g, cap, _, by rw [hlen], Nat.zero_le _, by rw [← hW2]; exact setRow_heap W1 g _ _ _ _ hg1, by rw [hlen]; omega, b4, ?_, ?_⟩⟩, (O1.trans O2).mono (fun k _ e => by rw [e]; rfl), fun k hk => .inl hk⟩
    · rw [List.size_toArray, splice_len _ _ _ (by simp; omega), hC1]; rfl
    · rw [hlen, hsp, ← eC1]
      exact splice_rows3 Z cur.toList n m at' _ hm hZl hat (by rw [Array.length_toList, hcs]; omega) b6')
  have hd1 : IntKind.i64.wrap ((at' : Int) + 1) = (at' : Int) + 1 := IntWalk.i64_in _ (by omega)
  have hd2 : ¬ ((at' : Int) = (at' : Int) + 1) := by omega
  have hd3 : ((at' : Int) == (at' : Int) + 1) = false := by simpa using hd2
  have hd4 : ¬ (cap = at') := by omega
  have hd5 : ¬ (cap = m) := by omega
  have hd7 : ¬ (n = at') := by omega
  have hb1 : (0 : Int) ≤ (at' : Int) + 1 := by omega
  have hin : at' ≤ n := by omega
  have hin2 : at' + 1 ≤ n := by omega
  have hin3 : at' ≤ cap := by omega
  have hin4 : at' ≤ at' + 1 := by omega
  have hmn : m ≤ n := by omega
  have htn : ((at' : Int) + 1).toNat = at' + 1 := by omega
  have hb3 : (at' : Int) + 1 ≤ (n : Int) := by omega
  have hb4 : (at' : Int) ≤ (at' : Int) + 1 := by omega
  have hb5 : ¬ (at' + 1 = at') := by omega
  have hG63 : cap ≤ 9223372036854775807 := by unfold maxLen at b4; omega
  replace hn := Lib.hid hn
  replace hm := Lib.hid hm
  have hap1 := fun ty c2 => hap ((at' + 1) * 2) ty c2 (.inl rfl)
  by_cases hc1 : cap = at' + 1
  · have hap2 := fun ty c2 => hap 0 ty c2 (.inr (by omega))
    clear hap hap1 hZl hC1 hW2 hW1 hg1 hg b5 b6 b4 hZd hsp eZ b6' hone hZc eC1 hi0 hz0 hzs hzb hcs
    subst hc1
    rw [show n - (at' + 1) = 0 by omega] at hap2
    go_enter Try.func64, Try.ntmps64
    go_wp2_with fail
    go_region_law (refine step_append_run_k rfl _ _ 61 rfl (.slice (some ⟨g, 0, none⟩) at' (at' + 1)) (.slice (some ⟨g, 0, none⟩) 0 0) (by simp [Act.eval, Act.put]) (by simp [Act.eval, Act.put]) (hap2 61 0) ?_)
    go_wp2_with (at_builtin; refine wpList_clear_k _ rfl _ 61 rfl _ rfl (hcl _ _) ?_)
    (try go_ret)
    exact fin.out
  · clear hap hZl hC1 hW2 hW1 hg1 hg b5 b6 b4 hZd hsp eZ b6' hone hZc eC1 hi0 hz0 hzs hzb hcs
    go_enter Try.func64, Try.ntmps64
    go_wp2_with fail
    go_region_law (refine step_append_run_k rfl _ _ 61 rfl (.slice (some ⟨g, 0, none⟩) at' cap) (.slice (some ⟨g, (at' + 1) * 2, none⟩) (n - (at' + 1)) (cap - (at' + 1))) (by simp [Act.eval, Act.put]) (by simp [Act.eval, Act.put]) (hap1 61 (cap - (at' + 1))) ?_)
    go_wp2_with (at_builtin; refine wpList_clear_k _ rfl _ 61 rfl _ rfl (hcl _ _) ?_)
    (try go_ret)
    exact fin.out
end Go.Proofs.Ytlknlicokacoiaa
