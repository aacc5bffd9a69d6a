/-
  The document's All; rows of frames.
-/
import Derived.Test.YtgnafbohikbpfaaSu
import Derived.Great.BuildSlice
namespace Go.Proofs.Ytgnafbohikbpfaa
set_option maxRecDepth 100000
set_option linter.unusedSimpArgs false
open Go.RowKit

theorem fold_set (pre : List Value) : ∀ (ys mid : List Value) (i : Nat) (done : List Value), mid.length = ys.length → done.length = i → (ys.zipIdx i).foldl (fun cs x => cs.setIfInBounds (pre.length + x.snd) x.fst) (pre ++ done ++ mid).toArray = (pre ++ done ++ ys).toArray := by
  intro ys
  induction ys with
  | nil =>
    intro mid i done hm _
    obtain rfl : mid = [] := List.eq_nil_of_length_eq_zero hm
    rfl
  | cons y ys ih =>
    intro mid i done hm hd
    cases mid with
    | nil => simp at hm
    | cons m mid =>
      rw [List.zipIdx_cons, List.foldl_cons]
      have e : (pre ++ done ++ m :: mid).toArray.setIfInBounds (pre.length + i) y = (pre ++ (done ++ [y]) ++ mid).toArray := by
        rw [List.setIfInBounds_toArray, List.append_assoc, List.set_append_right _ _ (by omega), Nat.add_sub_cancel_left, ← hd, List.set_append_right _ _ (Nat.le_refl _), Nat.sub_self]
        simp
      simp only [e]
      rw [ih mid (i + 1) (done ++ [y]) (by simpa using hm) (by simp [hd])]
      simp
theorem fillR (arr : Array Value) (ha : arr.size = 102) (vs : List Value) (h : vs.length = 102) : Instr.fill (fun i => some (i * 102, 102)) arr [(0, aggV vs)] = some vs.toArray := by
  have hf := fold_set [] vs arr.toList 0 [] (by rw [Array.length_toList, ha, h]) rfl
  have hc : (Value.agg vs.toArray).cells = vs.toArray := rfl
  simp [Instr.fill, aggV, hc, h, ha]
  simpa using hf

theorem bs78 (w : World) (vs : List Value) (h : vs.length = 102) : (Instr.buildSlice 78 1 #[(0, aggV vs)]).run Try.prog w = .ok (.slice (some ⟨w.heap.size, 0, none⟩) 1 1) (w.alloc (.cells vs.toArray 39)) := by
  obtain ⟨zv, hI, _⟩ := el78.info
  obtain ⟨i, hi, hz0, hz1, _⟩ := info_parts hI
  refine run_buildSlice (P := Try.prog) w 78 39 1 #[(0, aggV vs)] vs.toArray i _ el78.sl hi hz0 (by rw [hz1]; decide) (by rw [hz1]; decide) ?_
  rw [hz1]
  exact fillR _ (by simp) vs h
section
variable {ops : Array Oper} {rest : List Oper} {op o : Oper} {a : Act} {w : World} {K : Act → World → Prop} {Q : Exit → Act → World → Prop}
theorem wpBs78 (hgd : op.guard = none) (y : Operand) (ho : op.op = .buildSlice 78 1 #[(0, y)]) (vs : List Value) (hl : vs.length = 102) (hy : a.eval y = aggV vs) (h : ∀ W g, g = w.heap.size → Blk W g 39 vs → Kept [] w W → wpList Try.prog ops Q rest (a.put op.dst (.slice (some ⟨g, 0, none⟩) 1 1)) W) : wpList Try.prog ops Q (op :: rest) a w :=
  wpList_plain hgd fun _ hK => by
    unfold Oper.wp execOp
    simp only [ho, List.map_toArray, List.map_cons, List.map_nil, hy, Sem.run_bind, bs78 w vs hl, Result.andThen_ok]
    exact hK _ _ (h _ _ rfl (Blk.new _ _ _) ((Kept.refl _ _).alloc _))
end
/-- The frames by rising pages. -/
def allP (P : Po) (n : Nat) : List Fr := ((List.range n).filter (fun p : Nat => (lookP P (p : Int)).2)).map (fun p : Nat => (lookP P (p : Int)).1)
theorem allP_yes {P : Po} {n : Nat} (h : (lookP P (n : Int)).2 = true) : allP P (n + 1) = allP P n ++ [(lookP P (n : Int)).1] := by
  unfold allP
  rw [List.range_succ, List.filter_append, List.map_append]
  simp [h]
theorem allP_no {P : Po} {n : Nat} (h : (lookP P (n : Int)).2 = false) : allP P (n + 1) = allP P n := by
  unfold allP
  rw [List.range_succ, List.filter_append, List.map_append]
  simp [h]
theorem allP_len (P : Po) (n : Nat) : (allP P n).length ≤ n := by
  unfold allP
  rw [List.length_map]
  exact Nat.le_trans (List.length_filter_le _ _) (by simp)
variable {w0 w W W' : World} {r g : Nat} {P : Po} {v : Value} {F : List Fr}
/-- The document's pool, and a row of frames of one's own. -/
structure Cf (w0 B W : World) (r g : Nat) (P : Po) (v : Value) (F : List Fr) : Prop where
  ro : Ro w0 W r g P
  row : Fs W v F
  own : ∀ k, v.ownBlock = some k → B.heap.size ≤ k
  le : r < B.heap.size ∧ g < B.heap.size
  k : Kept [] B W
theorem Cf.step0 {B : World} (h : Cf w0 B W r g P v F) (hk : Kept [] W W') : Cf w0 B W' r g P v F := ⟨h.ro.step0 hk, h.row.kept hk (fun k _ => by simp), h.own, h.le, h.k.trans hk⟩
theorem Cf.app {B : World} (h : Cf w0 B W r g P v F) {v' : Value} {x : Fr} (hr : Fs W' v' (F ++ [x])) (hk : Kept (spare v) W W') (ho : ∀ k, v'.ownBlock = some k → v.ownBlock = some k ∨ W.heap.size ≤ k) : Cf w0 B W' r g P v' (F ++ [x]) := by
  have hs : ∀ k ∈ spare v, B.heap.size ≤ k := fun k hk2 => h.own k (spare_own hk2)
  refine ⟨h.ro.step hk (fun e => by have := hs _ e; have := h.le.1; omega) (fun e => by have := hs _ e; have := h.le.2; omega) (fun k hk2 => ?_), hr, fun k hk2 => ?_, h.le, h.k.fresh hk (fun i hi hl => by have := hs i hi; omega)⟩
  · have := hs k hk2
    have h9 := h.ro.b0
    have h8 := h.le.1
    omega
  · rcases ho k hk2 with h1 | h1
    · exact h.own k h1
    · exact Nat.le_trans h.k.size h1
set_option maxHeartbeats 4000000 in
theorem rall39 (h : Ro w0 w r g P) : Calls Try.prog 39 #[P0 r] w fun e w' => ∃ v, e = .returned v ∧ Cf w0 w w' r g P v (allP P 16) := by
  have HK : Hid (Cf w0 w w r g P (.slice none 0 0) (allP P 0)) := ⟨h, Rw.nil _, (fun k hk => by cases hk), h.lt, Kept.refl _ _⟩
  clear h
  go_enter Try.func39, Try.ntmps39
  go_wp2_with fail
  go_loopw [3, 4] (fun xf xn wr => ∃ (v : Value) (n : Nat), v = xf ∧ n ≤ 16 ∧ xn = .int .i64 n ∧ Hid (Cf w0 w wr r g P v (allP P n))) (fun _ xn _ => 16 - (intOf xn).toNat)
  case atStart => exact ⟨_, 0, rfl, by omega, rfl, HK⟩
  case round =>
    clear HK
    obtain ⟨xf, n, rfl, hn, rfl, HK⟩ := hrel
    by_cases hn16 : n < 16
    · have hnI : (n : Int) < 16 := by omega
      have hd : decide ((n : Int) < 16) = true := by simpa using hnI
      obtain ⟨F, hF⟩ : ∃ F, F = allP P n := ⟨_, rfl⟩
      rw [← hF] at HK
      have HFL : Hid (F.length ≤ 16) := by show _ ≤ _; rw [hF]; exact Nat.le_trans (allP_len P n) hn
      have HF := hide hF
      obtain ⟨x, hx⟩ : ∃ x, (lookP P (n : Int)).1 = x := ⟨_, rfl⟩
      have HXE := hide hx
      obtain ⟨fc, hfc⟩ : ∃ c, c = x.C := ⟨_, rfl⟩
      have HFC := hide hfc
      have HLF : Hid (fc.length = 102) := by show _ = _; rw [hfc, Fr.len]
      have HOF : Hid (∀ v ∈ fc, v.oneCell' = true) := by rw [hfc]; exact Fr.one _
      obtain ⟨zc, hzc⟩ : ∃ c, c = fr0.C := ⟨_, rfl⟩
      have HLZ : Hid (zc.length = 102) := by show _ = _; rw [hzc, Fr.len]
      have HZ39 : Hid (∀ w : World, (Instr.alloc 39 true (.tuple #[])).run Try.prog w = .ok (P0 w.heap.size) (w.alloc (.cells zc.toArray 39))) := by rw [hzc]; exact zero39
      have P37 := hide (ro_look (unhide HK).ro (n : Int))
      rw [hx, ← hfc] at P37
      clear hF hfc hzc hx
      cases hl : (lookP P (n : Int)).2 with
      | false =>
        have HNO := hide hl
        rw [hl] at P37
        clear hl
        go_wp2_with (
          first
          | (go_at_call 37
             refine (unhide P37).mono ?_
             rintro e W4 ⟨rfl, K4⟩
             replace HK := hide ((unhide HK).step0 K4)
             clear K4 P37
             refine Stp.go ?_))
        constructor
        go_wp2_with (
          first
          | (refine wpNew row39 zc (unhide HLZ) (unhide HZ39) 5 rfl rfl rfl (.tmp 15) rfl rfl rfl fc (unhide HLF) (unhide HOF) (by kernel_rfl) (by kernel_rfl) ?_
             intro W5 q5 e5 B5 K5
             replace HK := hide ((unhide HK).step0 K5)
             have HB5 := hide B5
             clear e5 B5 K5
             refine Stp.go ?_))
        constructor
        go_wp2_with fail
        go_roundw
        case rel => exact ⟨_, n + 1, rfl, by omega, by go_num, hide (by rw [allP_no (unhide HNO)]; rw [show F = allP P n from unhide HF] at HK; exact unhide HK)⟩
        case measure => simp [intOf]; omega
      | true =>
        have HYES := hide hl
        rw [hl] at P37
        clear hl
        go_wp2_with (
          first
          | (go_at_call 37
             refine (unhide P37).mono ?_
             rintro e W4 ⟨rfl, K4⟩
             replace HK := hide ((unhide HK).step0 K4)
             clear K4 P37
             refine Stp.go ?_))
        constructor
        go_wp2_with (
          first
          | (refine wpNew row39 zc (unhide HLZ) (unhide HZ39) 5 rfl rfl rfl (.tmp 15) rfl rfl rfl fc (unhide HLF) (unhide HOF) (by kernel_rfl) (by kernel_rfl) ?_
             intro W5 q5 e5 B5 K5
             replace HK := hide ((unhide HK).step0 K5)
             have HB5 := hide B5
             clear e5 B5 K5
             refine Stp.go ?_))
        constructor
        go_wp2_with (
          first
          | (refine wpLoadA row39 rfl (.tmp 5) rfl q5 0 rfl fc (unhide HLF) (unhide HB5).range ?_
             refine Stp.go ?_))
        constructor
        go_wp2_with (
          first
          | (refine wpBs78 rfl (.tmp 19) rfl fc (unhide HLF) rfl ?_
             intro W7 g7 e7 B7 K7
             have HB7 := hide B7
             replace HK := hide ((unhide HK).step0 K7)
             clear e7 B7 K7
             refine Stp.go ?_))
        constructor
        go_wp2_with (
          first
          | (refine wpAppR el78 rfl (.tmp 18) (.tmp 20) rfl xf F.length (frC F) rfl (unhide HK).row (.slice (some ⟨g7, 0, none⟩) 1 1) 1 fc rfl (Rw.made (unhide HB7) (by rw [unhide HLF]) (max1000 (by omega))) (unhide HOF) (by have := unhide HFL; omega) (max1000 (by have := unhide HFL; omega)) ?_
             intro v8 W8 h1 h2 h3 h4
             have HK8 : Hid (Cf w0 w W8 r g P v8 (F ++ [x])) := (unhide HK).app (by show Rw _ 39 102 _ _ _; rw [List.length_append, frC_app, show frC [x] = fc by rw [show fc = x.C from unhide HFC]; simp [frC]]; exact h1) h2 h3
             clear h1 h2 h3 h4 HB7 HK
             refine Stp.go ?_))
        constructor
        go_wp2_with fail
        go_roundw
        case rel => exact ⟨_, n + 1, rfl, by omega, by go_num, hide (by rw [allP_yes (unhide HYES), show (lookP P (n : Int)).1 = x from unhide HXE]; rw [show F = allP P n from unhide HF] at HK8; exact unhide HK8)⟩
        case measure => simp [intOf]; omega
    · obtain rfl : n = 16 := by omega
      have hd : decide (((16 : Nat) : Int) < 16) = false := by decide
      go_wp2_with fail
      go_ret
      exact ⟨_, rfl, unhide HK⟩

end Go.Proofs.Ytgnafbohikbpfaa
