/-
  Copy.
-/
import Derived.Test.YtpcggcicpojdoaaGy
namespace Go.Proofs.Ytpcggcicpojdoaa
open Go.RowKit

theorem clone51 (v : Value) (n : Nat) (xs : List Value) (w : World) (h : w.ownsRow 0 2 1 v n xs) (hx1 : ∀ u ∈ xs, u.oneCell' = true) (hm : n ≤ 4096) :
    Calls Try.prog 51 #[v] w fun e w' => ∃ v', e = .returned v' ∧ w'.ownsRow w.heap.size 2 1 v' n xs ∧ Kept [] w w' := by
  obtain ⟨ao, c, rfl, hV, hnil⟩ := owns_vals h
  have hlen := hV.len
  clear h
  cases ao with
  | none =>
    obtain ⟨rfl, rfl⟩ := hnil rfl
    obtain rfl : xs = [] := List.length_eq_zero_iff.1 hlen
    have hq : ∀ W, Sem.run Try.prog (binOp BinOp.eql 56 (.slice none 0 0) (.slice none 0 0)) W = .ok (.bool true) W := fun W => by kernel_rfl
    go_enter Try.func51, Try.ntmps51
    go_wp2
    go_ret
    exact ⟨_, rfl, World.ownsRow_nil _ _ _ _, Kept.refl _ _⟩
  | some ad =>
    have HV := hide hV
    have KW : Hid (Kept [] w (w.alloc (.cells #[] 2))) := (Kept.refl _ _).alloc _
    have HO : Hid ((w.alloc (.cells #[] 2)).ownsRow w.heap.size 2 1 (.slice (some ⟨w.heap.size, 0, none⟩) 0 0) ([] : List Value).length []) := ⟨rfl, .inr ⟨w.heap.size, 0, #[], rfl, Nat.le_refl _, heap_alloc_new w _, Nat.le_refl _, by decide, rfl, rfl⟩⟩
    have hq : ∀ W, Sem.run Try.prog (binOp BinOp.eql 56 (.slice (some ad) n c) (.slice none 0 0)) W = .ok (.bool false) W := fun W => by kernel_rfl
    clear hV
    go_enter Try.func51, Try.ntmps51
    go_wp2_with (
      first
      | (at_builtin; refine wpAppV (T := 56) (e := 2) (z := .int .i64 0) (by8 := 8) (by kernel_rfl) (by kernel_rfl) rfl (by decide) (by rfl) (.tmp 5) (.tmp 6) (by rfl) w.heap.size _ [] xs (by rfl) (some ad) n c (by rfl) (fun h => by cases h) ((unhide HV).kept (unhide KW) (fun _ _ _ => by simp)) hx1 (unhide HO) (by simp; omega) (by simp) ?_
         intro v4 W4 hO4 g4))
    go_ret
    refine ⟨_, rfl, ?_, kept_grown (unhide KW) g4 (fun k h => ?_)⟩
    · rw [List.nil_append, hlen] at hO4
      exact hO4
    · simp [Value.ownBlock] at h
      omega
theorem clone50 (mb : Nat) (L : List Ltr) (w : World) (h : MapAt w mb L) : Calls Try.prog 50 #[.map (some mb)] w fun e w' => ∃ m', e = .returned (.map (some m')) ∧ w.heap.size ≤ m' ∧ MapAt w' m' L ∧ Kept [] w w' := by
  obtain ⟨es, c, hb, h2, hst⟩ := h
  have hq : ∀ W, Sem.run Try.prog (binOp BinOp.eql 55 (.map (some mb)) (.map none)) W = .ok (.bool false) W := fun W => by kernel_rfl
  have hc : (Extern.MapsClone.clone #[.iface 55 (.map (some mb))]).run Try.prog w = .ok (.iface 55 (.map (some w.heap.size))) (w.alloc (.map es c)) := by
    show Sem.run Try.prog (getObj mb >>= _) w = _
    rw [Sem.run_bind, get_map hb]
    rfl
  have ht : ∀ (W : World) (m : Nat), (Instr.typeAssert (.iface 55 (.map (some m))) 20 55 false).run Try.prog W = .ok (.map (some m)) W := fun W m => by kernel_rfl
  go_enter Try.func50, Try.ntmps50
  go_wp2
  rw [run_callFunc_extern Try.func57 (by kernel_rfl) (by kernel_rfl) (by kernel_rfl) (e := Extern.MapsClone.clone) (by kernel_rfl), hc]
  simp only [Result.andThen]
  rw [Oper.upon_value]
  go_wp2
  go_ret
  exact ⟨w.heap.size, rfl, Nat.le_refl _, ⟨es, c, heap_alloc_new w _, h2, hst⟩, (Kept.refl _ _).alloc _⟩
theorem nn_one {a b : Int} {m : Option Nat} {v : Value} (h : v.oneCell' = true) : ∀ u ∈ [Value.int .i64 a, .int .i64 b, .map m, v], u.oneCell' = true := by
  intro u hu
  simp only [List.mem_cons, List.not_mem_nil, or_false] at hu
  rcases hu with rfl | rfl | rfl | rfl
  · rfl
  · rfl
  · rfl
  · exact h
theorem cg50 (vs : Array Value) (w : World) : (callFunc 50 vs).run Try.prog w = .ok (.enter 50 vs) w := by kernel_rfl
theorem cg51 (vs : Array Value) (w : World) : (callFunc 51 vs).run Try.prog w = .ok (.enter 51 vs) w := by kernel_rfl
theorem row58 : Row 58 4 := ⟨_, Try.underlying58, rfl, by kernel_rfl⟩
def zN : List Value := [.int .i64 0, .int .i64 0, .map none, .slice none 0 0]
theorem alloc58 (w : World) : (Instr.alloc 58 true (.tuple #[])).run Try.prog w = .ok (P0 w.heap.size) (w.alloc (.cells zN.toArray 58)) := by kernel_rfl
section
variable {o : Oper} {a : Act} {w : World} {K : Act → World → Prop} {Q : Exit → Act → World → Prop}
theorem o_stV {T : Nat} (x y : Operand) (ho : o.op = .store T x y) (_ : o.dst = none) (b i TT : Nat) (us : List Value) (v : Value) (hx : a.eval x = .pointer (some ⟨b, i, none⟩)) (hy : a.eval y = v) (hB : Blk w b TT us) (hst : (storeVar T ⟨b, i, none⟩ v).run Try.prog w = .ok () (w.setCell ⟨b, i, none⟩ v))
    (h : ∀ W, Blk W b TT (us.set i v) → Kept [b] w W → K (a.put o.dst undef) W) : o.wp Try.prog a w K Q := by
  have := h _ (hB.set (i := i) v) ((Kept.refl _ _).setCell (by simp) _)
  unfold Oper.wp execOp
  simp only [ho, hx, hy, Instr.storeAt, Instr.sureAddr, Sem.run_bind, Sem.run_pure, Result.andThen_ok, hst]
  exact this
end
theorem st55 (w : World) (b TT i : Nat) (us : List Value) (m : Option Nat) (h : Blk w b TT us) (hi : i < us.length) : (storeVar 55 ⟨b, i, none⟩ (.map m)).run Try.prog w = .ok () (w.setCell ⟨b, i, none⟩ (.map m)) := by
  have hc := h.cell i
  rw [List.getElem?_eq_getElem hi] at hc
  have hf := h.frozen i
  simp [storeVar, go_sem, hc, hf]
/-- What Copy's region keeps. -/
@[reducible] def S31 (w : World) (p mb : Nat) (v : Value) (N : Nn) (b : Nat → Bool) (vs : Nat → Value) (W : World) : Prop :=
  Kept [p] w W ∧ Blk W p 58 [.int .i64 N.nodes, .int .i64 N.last, (if b 11 = true then vs 4 else .map (some mb)), (if b 13 = true then vs 9 else v)] ∧
  (b 4 = true → ∃ m', vs 4 = .map (some m') ∧ w.heap.size ≤ m' ∧ MapAt W m' N.L) ∧
  (b 9 = true → W.ownsRow w.heap.size 2 1 (vs 9) N.L.length (nums N.L))
theorem S31.loc {w : World} {p mb : Nat} {v : Value} {N : Nn} : ∀ b b' vs vs' W, (∀ i ∈ [4, 9, 11, 13], b i = b' i ∧ vs i = vs' i) → S31 w p mb v N b vs W → S31 w p mb v N b' vs' W := by
  intro b b' vs vs' W H h
  have e4 := H 4 (by simp)
  have e9 := H 9 (by simp)
  have e11 := H 11 (by simp)
  have e13 := H 13 (by simp)
  unfold S31 at h ⊢
  rw [← e4.1, ← e4.2, ← e9.1, ← e9.2, ← e11.1, ← e13.1]
  exact h
theorem S31.step {w W W' : World} {p mb : Nat} {v : Value} {N : Nn} {b : Nat → Bool} {vs : Nat → Value} (h : S31 w p mb v N b vs W) (hk : Kept [] W W') : S31 w p mb v N b vs W' := by
  refine ⟨h.1.trans (hk.mono (by simp)), h.2.1.kept hk (by simp), fun h4 => ?_, fun h9 => owns_keptX (h.2.2.2 h9) hk (by simp)⟩
  obtain ⟨m', e, hm, hM⟩ := h.2.2.1 h4
  exact ⟨m', e, hm, hM.kept hk (by simp)⟩
set_option maxHeartbeats 4000000 in
set_option maxRecDepth 100000 in
theorem copy31 (b mb : Nat) (v : Value) (N : Nn) (w : World) (h : Nt w b mb v N) : Calls Try.prog 31 #[P0 b] w fun e w' => ∃ b' mb' v', e = .returned (P0 b') ∧ w.heap.size ≤ b' ∧ w.heap.size ≤ mb' ∧ (∀ i, v'.ownBlock = some i → w.heap.size ≤ i) ∧ Nt w' b' mb' v' N ∧ Kept [] w w' := by
  have PN := hide (none38 b mb v N w h)
  have HN := hide h
  have HMANY := hide h.many
  have HOLD : Hid (∀ k, v.ownBlock = some k → k < w.heap.size) := fun k hk => (h.ord.lt k hk).2
  have HVO : Hid (v.oneCell' = true) := by obtain ⟨ao, c, rfl, _, _⟩ := owns_vals h.ord; rfl
  have hHR := h.head
  have HR := hide hHR
  clear h hHR
  go_enter Try.func31, Try.ntmps31
  go_wp2_with (
    first
    | (go_at_call 38
       refine (unhide PN).mono ?_
       rintro e V1 ⟨rfl, hw1⟩
       obtain rfl := hw1.symm
       clear hw1
       refine Stp.go ?_))
  constructor
  go_wp2_with (
    first
    | (refine wpLoadA row58 (by rfl) (.tmp 7) (by rfl) b 0 (by kernel_rfl) ([.int .i64 N.nodes, .int .i64 N.last, .map (some mb), v]) rfl (unhide HR).range ?_
       refine Stp.go ?_))
  constructor
  go_wp2_with (
    first
    | (refine wpNew row58 zN rfl alloc58 3 (by rfl) (by rfl) (by rfl) (.tmp 8) (by rfl) (by rfl) (by rfl) [.int .i64 N.nodes, .int .i64 N.last, .map (some mb), v] rfl (nn_one (unhide HVO)) (by kernel_rfl) (by kernel_rfl) ?_
       intro W1 p3 e3 B3 K3
       have HP3 := hide B3
       have HF : Hid (w.heap.size ≤ p3) := by rw [e3]; exact Nat.le_refl _
       have HK := hide K3
       have HB := hide ((unhide HN).kept0 K3).head
       have HM := hide ((unhide HN).kept0 K3).map
       have HOR := hide ((unhide HN).kept0 K3).ord
       have HNE : Hid (¬ b = p3) := by have := (unhide HN).head.lt; show ¬ _; omega
       have HMN : Hid (¬ mb = p3) := fun e => map_not_cells (unhide HM) B3 e.symm
       clear e3 B3 K3))
  refine wp_region_any mixed (wpAny_gx 14 rfl (by kernel_rfl) [some (P0 b), some (P0 b), some (.pointer (some ⟨b, 2, none⟩)), some (.map (some mb)), none, some (P0 b), some (P0 b), some (.pointer (some ⟨b, 3, none⟩)), some (v), none, some (.pointer (some ⟨p3, 2, none⟩)), none, some (.pointer (some ⟨p3, 3, none⟩)), none] rfl (by kernel_rfl) (fun l vs W => (S31 W1 p3 mb v N) (fun i => l.getD i false) vs W) (⟨⟨rfl, rfl, rfl, Nat.le_refl _, fun _ _ _ => rfl⟩, unhide HP3, (fun h => by cases h), fun h => by cases h⟩) ?_ ?_)
  · intro ix o' hi ho a' w2 l vs hls hlf hJ hout hin hdep hnot
    match ix, ho with
    | 0, ho =>
      obtain rfl := Option.some.inj ho
      have e0 := hout 0 (by kernel_rfl)
      replace e0 : a'.eval (.tmp 0) = _ := e0.trans rfl
      exact wp_move (.tmp 0) rfl _ e0 ⟨_, rfl, told_of rfl, keepG (St := (S31 W1 p3 mb v N)) [4, 9, 11, 13] S31.loc (by omega) (by decide) hJ⟩
    | 1, ho =>
      obtain rfl := Option.some.inj ho
      have e0 : a'.eval (.tmp 9) = P0 b := by have h9 := hin 0 9 (by kernel_rfl) (by kernel_rfl); exact h9.1.trans (told_is _ h9.2 rfl)
      exact o_nil (.tmp 9) rfl _ e0 ⟨_, rfl, told_of rfl, keepG (St := (S31 W1 p3 mb v N)) [4, 9, 11, 13] S31.loc (by omega) (by decide) hJ⟩
    | 2, ho =>
      obtain rfl := Option.some.inj ho
      have e0 : a'.eval (.tmp 10) = P0 b := by have h9 := hin 1 10 (by kernel_rfl) (by kernel_rfl); exact h9.1.trans (told_is _ h9.2 rfl)
      exact o_fld58_2 (.tmp 10) rfl _ e0 ⟨_, rfl, told_of rfl, keepG (St := (S31 W1 p3 mb v N)) [4, 9, 11, 13] S31.loc (by omega) (by decide) hJ⟩
    | 3, ho =>
      obtain rfl := Option.some.inj ho
      have e0 : a'.eval (.tmp 11) = .pointer (some ⟨b, 2, none⟩) := by have h9 := hin 2 11 (by kernel_rfl) (by kernel_rfl); exact h9.1.trans (told_is _ h9.2 rfl)
      exact o_load55 (.tmp 11) rfl _ _ e0 (fits_cell ((unhide HB).kept hJ.1 (by simp; exact unhide HNE)) 2 _ rfl) ⟨_, rfl, told_of rfl, keepG (St := (S31 W1 p3 mb v N)) [4, 9, 11, 13] S31.loc (by omega) (by decide) hJ⟩
    | 4, ho =>
      obtain rfl := Option.some.inj ho
      have e0 : a'.eval (.tmp 12) = .map (some mb) := by have h9 := hin 3 12 (by kernel_rfl) (by kernel_rfl); exact h9.1.trans (told_is _ h9.2 rfl)
      have hM := (unhide HM).kept hJ.1 (by simp; exact unhide HMN)
      refine wp_callF 50 _ _ rfl #[.map (some mb)] (by simp [e0]) (cg50 _ _) ((clone50 mb N.L w2 hM).mono ?_)
      rintro e w3 ⟨m', rfl, hm', hM', hk3⟩
      have h' := S31.step hJ hk3
      have h11 : l.getD 11 false = false := hnot 11 (by kernel_rfl)
      exact ⟨_, rfl, _, rfl, told_no rfl, nextG (St := (S31 W1 p3 mb v N)) (by omega) ⟨h'.1, (by have h2 := h'.2.1; simp only [h11] at h2 ⊢; exact h2), fun _ => ⟨m', rfl, by have := hJ.1.size; omega, hM'⟩, h'.2.2.2⟩⟩
    | 5, ho =>
      obtain rfl := Option.some.inj ho
      have e0 := hout 0 (by kernel_rfl)
      replace e0 : a'.eval (.tmp 0) = _ := e0.trans rfl
      exact wp_move (.tmp 0) rfl _ e0 ⟨_, rfl, told_of rfl, keepG (St := (S31 W1 p3 mb v N)) [4, 9, 11, 13] S31.loc (by omega) (by decide) hJ⟩
    | 6, ho =>
      obtain rfl := Option.some.inj ho
      have e0 : a'.eval (.tmp 14) = P0 b := by have h9 := hin 5 14 (by kernel_rfl) (by kernel_rfl); exact h9.1.trans (told_is _ h9.2 rfl)
      exact o_nil (.tmp 14) rfl _ e0 ⟨_, rfl, told_of rfl, keepG (St := (S31 W1 p3 mb v N)) [4, 9, 11, 13] S31.loc (by omega) (by decide) hJ⟩
    | 7, ho =>
      obtain rfl := Option.some.inj ho
      have e0 : a'.eval (.tmp 15) = P0 b := by have h9 := hin 6 15 (by kernel_rfl) (by kernel_rfl); exact h9.1.trans (told_is _ h9.2 rfl)
      exact o_fld58_3 (.tmp 15) rfl _ e0 ⟨_, rfl, told_of rfl, keepG (St := (S31 W1 p3 mb v N)) [4, 9, 11, 13] S31.loc (by omega) (by decide) hJ⟩
    | 8, ho =>
      obtain rfl := Option.some.inj ho
      have e0 : a'.eval (.tmp 16) = .pointer (some ⟨b, 3, none⟩) := by have h9 := hin 7 16 (by kernel_rfl) (by kernel_rfl); exact h9.1.trans (told_is _ h9.2 rfl)
      exact o_load56 (.tmp 16) rfl _ _ e0 (fits_cell ((unhide HB).kept hJ.1 (by simp; exact unhide HNE)) 3 _ rfl) ⟨_, rfl, told_of rfl, keepG (St := (S31 W1 p3 mb v N)) [4, 9, 11, 13] S31.loc (by omega) (by decide) hJ⟩
    | 9, ho =>
      obtain rfl := Option.some.inj ho
      have e0 : a'.eval (.tmp 17) = v := by have h9 := hin 8 17 (by kernel_rfl) (by kernel_rfl); exact h9.1.trans (told_is _ h9.2 rfl)
      have hO := owns_keptX (unhide HOR) hJ.1 (fun k hk hm => by simp at hm; subst hm; have := ((unhide HOR).lt _ hk).2; have : w.heap.size ≤ k := unhide HF; have := (unhide HK).size; exact absurd (unhide HOLD k hk) (by omega))
      refine wp_callF 51 _ _ rfl #[v] (by simp [e0]) (cg51 _ _) ((clone51 v N.L.length (nums N.L) w2 hO (nums_one _) (unhide HMANY)).mono ?_)
      rintro e w3 ⟨v', rfl, hO', hk3⟩
      have h' := S31.step hJ hk3
      have h13 : l.getD 13 false = false := hnot 13 (by kernel_rfl)
      exact ⟨_, rfl, _, rfl, told_no rfl, nextG (St := (S31 W1 p3 mb v N)) (by omega) ⟨h'.1, (by have h2 := h'.2.1; simp only [h13] at h2 ⊢; exact h2), h'.2.2.1, fun _ => owns_base hO' hJ.1.size⟩⟩
    | 10, ho =>
      obtain rfl := Option.some.inj ho
      have e0 := hout 3 (by kernel_rfl)
      replace e0 : a'.eval (.tmp 3) = _ := e0.trans rfl
      exact o_fld58_2 (.tmp 3) rfl _ e0 ⟨_, rfl, told_of rfl, keepG (St := (S31 W1 p3 mb v N)) [4, 9, 11, 13] S31.loc (by omega) (by decide) hJ⟩
    | 11, ho =>
      obtain rfl := Option.some.inj ho
      have e0 : a'.eval (.tmp 19) = .pointer (some ⟨p3, 2, none⟩) := by have h9 := hin 10 19 (by kernel_rfl) (by kernel_rfl); exact h9.1.trans (told_is _ h9.2 rfl)
      have e1 : a'.eval (.tmp 13) = vs 4 := (hin 4 13 (by kernel_rfl) (by kernel_rfl)).1
      have h4 : l.getD 4 false = true := hdep 4 (by kernel_rfl)
      obtain ⟨m', ev, hm', hM'⟩ := hJ.2.2.1 h4
      rw [ev] at e1
      exact o_stV (T := 55) (.tmp 19) (.tmp 13) rfl rfl p3 2 58 _ (.map (some m')) e0 e1 hJ.2.1 (st55 _ _ _ _ _ _ hJ.2.1 (by simp)) fun W hBW hkW => ⟨_, rfl, told_no rfl, nextG (St := (S31 W1 p3 mb v N)) (by omega) ⟨hJ.1.trans hkW, (by rw [← ev] at hBW; exact hBW), fun _ => ⟨m', ev, hm', hM'.kept hkW (by simp; exact fun e => map_not_cells hM' hJ.2.1 e.symm)⟩, fun h9 => owns_keptX (hJ.2.2.2 h9) hkW (fun k hk hm => by simp at hm; subst hm; obtain ⟨cs, hc⟩ := owns_block (hJ.2.2.2 h9) k hk; have hb := hJ.2.1; unfold Blk at hb; rw [hb] at hc; cases hc)⟩⟩
    | 12, ho =>
      obtain rfl := Option.some.inj ho
      have e0 := hout 3 (by kernel_rfl)
      replace e0 : a'.eval (.tmp 3) = _ := e0.trans rfl
      exact o_fld58_3 (.tmp 3) rfl _ e0 ⟨_, rfl, told_of rfl, keepG (St := (S31 W1 p3 mb v N)) [4, 9, 11, 13] S31.loc (by omega) (by decide) hJ⟩
    | 13, ho =>
      obtain rfl := Option.some.inj ho
      have e0 : a'.eval (.tmp 20) = .pointer (some ⟨p3, 3, none⟩) := by have h9 := hin 12 20 (by kernel_rfl) (by kernel_rfl); exact h9.1.trans (told_is _ h9.2 rfl)
      have e1 : a'.eval (.tmp 18) = vs 9 := (hin 9 18 (by kernel_rfl) (by kernel_rfl)).1
      have h9 : l.getD 9 false = true := hdep 9 (by kernel_rfl)
      have hO := hJ.2.2.2 h9
      obtain ⟨ao, cc, ev, _, _⟩ := owns_vals hO
      rw [ev] at e1
      exact o_stV (T := 56) (.tmp 20) (.tmp 18) rfl rfl p3 3 58 _ (.slice ao N.L.length cc) e0 e1 hJ.2.1 (st56 _ _ _ _ _ _ _ _ hJ.2.1 (by simp)) fun W hBW hkW => ⟨_, rfl, told_no rfl, nextG (St := (S31 W1 p3 mb v N)) (by omega) ⟨hJ.1.trans hkW, (by rw [← ev] at hBW; exact hBW), (fun h4 => by
        obtain ⟨m', ev', hm', hM'⟩ := hJ.2.2.1 h4
        exact ⟨m', ev', hm', hM'.kept hkW (by simp; exact fun e => map_not_cells hM' hJ.2.1 e.symm)⟩), fun _ => owns_keptX hO hkW (fun k hk hm => by simp at hm; subst hm; obtain ⟨cs, hc⟩ := owns_block hO k hk; have hb := hJ.2.1; unfold Blk at hb; rw [hb] at hc; cases hc)⟩⟩
  intro l vs w9 hl hJ htold
  have t0 : vs 0 = P0 b := told_is _ (htold 0 (by decide)) rfl
  have t1 : vs 1 = P0 b := told_is _ (htold 1 (by decide)) rfl
  have t2 : vs 2 = .pointer (some ⟨b, 2, none⟩) := told_is _ (htold 2 (by decide)) rfl
  have t3 : vs 3 = .map (some mb) := told_is _ (htold 3 (by decide)) rfl
  have t5 : vs 5 = P0 b := told_is _ (htold 5 (by decide)) rfl
  have t6 : vs 6 = P0 b := told_is _ (htold 6 (by decide)) rfl
  have t7 : vs 7 = .pointer (some ⟨b, 3, none⟩) := told_is _ (htold 7 (by decide)) rfl
  have t8 : vs 8 = v := told_is _ (htold 8 (by decide)) rfl
  have t10 : vs 10 = .pointer (some ⟨p3, 2, none⟩) := told_is _ (htold 10 (by decide)) rfl
  have t12 : vs 12 = .pointer (some ⟨p3, 3, none⟩) := told_is _ (htold 12 (by decide)) rfl
  rw [show (List.range 14).map vs = [vs 0, vs 1, vs 2, vs 3, vs 4, vs 5, vs 6, vs 7, vs 8, vs 9, vs 10, vs 11, vs 12, vs 13] from rfl]
  simp only [t0, t1, t2, t3, t5, t6, t7, t8, t10, t12, putAll, Act.put, List.setIfInBounds_toArray, List.set_cons_succ, List.set_cons_zero]
  clear t0 t1 t2 t3 t5 t6 t7 t8 t10 t12 htold
  obtain ⟨hk9, hB9, hM9, hO9⟩ := hJ
  obtain ⟨m', ev, hm', hM'⟩ := hM9 (hl 4 (by decide))
  replace hO9 := hO9 (hl 9 (by decide))
  rw [if_pos (hl 11 (by decide)), if_pos (hl 13 (by decide)), ev] at hB9
  have HB9 := hide hB9
  have HM9 := hide hM'
  have HO9 := hide hO9
  have HK9 := hide hk9
  have HM2 := hide hm'
  clear hl hB9 hM' hO9 hk9 hm' hM9
  go_wp2_with fail
  go_ret
  have hkw : Kept [] w w9 := (unhide HK).fresh (unhide HK9) (fun i hi hl => by have : w.heap.size ≤ p3 := unhide HF; simp at hi; omega)
  have hkN := (unhide HN).kept0 hkw
  exact ⟨p3, m', vs 9, rfl, unhide HF, Nat.le_trans (unhide HK).size (unhide HM2), fun i hi => Nat.le_trans (unhide HK).size ((unhide HO9).lt i hi).1, ⟨(unhide HN).nodes, unhide HB9, unhide HM9, owns_base (unhide HO9) (Nat.zero_le _), hkN.body, hkN.last, hkN.many, hkN.num, hkN.rise, hkN.small, hkN.ends⟩, hkw⟩

end Go.Proofs.Ytpcggcicpojdoaa
