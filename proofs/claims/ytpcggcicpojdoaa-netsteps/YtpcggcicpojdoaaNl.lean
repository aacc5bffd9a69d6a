/-
  put: a letter more.
-/
import Derived.Test.YtpcggcicpojdoaaNk
import Derived.Maps.AppendAt
namespace Go.Proofs.Ytpcggcicpojdoaa
open Go.RowKit

section
variable {o : Oper} {a : Act} {w : World} {K : Act → World → Prop} {Q : Exit → Act → World → Prop}
theorem o_upd (m x y : Operand) (ho : o.op = .mapUpdate 55 m x y) (_ : o.dst = none) (mb : Nat) (L : List Ltr) (l : Ltr) (hm : a.eval m = .map (some mb)) (hx : a.eval x = .int .i64 l.num) (hy : a.eval y = aggV l.C) (hM : MapAt w mb L) (hn : placeOf l.num L 0 = none)
    (h : ∀ W, MapAt W mb (L ++ [l]) → Kept [mb] w W → K (a.put o.dst undef) W) : o.wp Try.prog a w K Q := by
  obtain ⟨w', hr, h1, h2⟩ := run_upd w mb L l hM hn
  unfold Oper.wp execOp
  simp only [ho, hm, hx, hy, Sem.run_bind, hr, Result.andThen_ok, Sem.run_pure]
  exact h w' h1 h2
theorem o_del (m x : Operand) (ho : o.op = .call { callee := .builtin .delete, args := #[m, x], argTypes := #[55, 2] }) (mb : Nat) (L : List Ltr) (k : Int) (i : Nat) (l : Ltr) (hm : a.eval m = .map (some mb)) (hx : a.eval x = .int .i64 k) (hM : MapAt w mb L) (hn : placeOf k L 0 = some (i, l))
    (h : ∀ W, MapAt W mb (L.eraseIdx i) → Kept [mb] w W → K (a.put o.dst (.tuple #[])) W) : o.wp Try.prog a w K Q := by
  obtain ⟨w', hr, h1, h2⟩ := run_del w mb L k i l hM hn
  have hr' : (Builtin.delete_ #[55, 2] o.type #[.map (some mb), .int .i64 k]).run Try.prog w = .ok (.tuple #[]) w' := hr
  unfold Oper.wp execOp
  simp only [ho, resolve, invoke, builtin, Sem.run_bind, Sem.run_pure, Result.andThen_ok, List.map_toArray, List.map_cons, List.map_nil, hm, hx, hr']
  exact h w' h1 h2
theorem o_app1 (s x : Operand) (ho : o.op = .call { callee := .builtin .append, args := #[s, x], argTypes := #[56, 56] }) (v : Value) (xs : List Value) (hs : a.eval s = v) (hown : w.ownsRow 0 2 1 v xs.length xs) (p : Nat) (u : Value) (hx : a.eval x = .slice (some ⟨p, 0, none⟩) 1 1) (hc : w.cell? ⟨p, 0, none⟩ = some u) (h1 : u.oneCell' = true) (hk : xs.length ≤ 100000)
    (h : ∀ v' w', w'.ownsRow 0 2 1 v' (xs.length + 1) (xs ++ [u]) → w.grownBy w' v.ownBlock → (v'.ownBlock = v.ownBlock ∨ v'.ownBlock = some w.heap.size) → K (a.put o.dst v') w') : o.wp Try.prog a w K Q := by
  obtain ⟨i, hi, hz0, hz1, hz2⟩ := info_parts Try.zero2
  obtain ⟨v', w', hr, h2, h3, _, h5⟩ := run_append_own_at (P := Try.prog) w 0 56 o.type 2 i (.int .i64 0) 1 8 Try.sl56 hi hz0 hz1 hz2 rfl (by decide) v xs.length xs hown ⟨p, 0, none⟩ 1 1 [u] rfl (fun j y hj => by
    cases j with
    | zero => simp at hj; subst hj; rw [Addr.add_lit]; exact hc
    | succ j => simp at hj) (fun y hy => by simp at hy; subst hy; exact h1) (by simp [maxLen]; omega) (by omega) (Nat.zero_le _)
  unfold Oper.wp execOp
  simp only [ho, resolve, invoke, builtin, Sem.run_bind, Sem.run_pure, Result.andThen_ok, List.map_toArray, List.map_cons, List.map_nil, hs, hx, hr]
  exact h v' w' h2 h3 h5
theorem o_bs1 (x : Operand) (ho : o.op = .buildSlice 56 1 #[(0, x)]) (k : Int) (hx : a.eval x = .int .i64 k) (h : K (a.put o.dst (.slice (some ⟨w.heap.size, 0, none⟩) 1 1)) (w.alloc (.cells #[.int .i64 k] 2))) : o.wp Try.prog a w K Q := by
  have hr : (Instr.buildSlice 56 1 #[(0, .int .i64 k)]).run Try.prog w = .ok (.slice (some ⟨w.heap.size, 0, none⟩) 1 1) (w.alloc (.cells #[.int .i64 k] 2)) := by kernel_rfl
  unfold Oper.wp execOp
  simp only [ho, List.map_toArray, List.map_cons, List.map_nil, hx, Sem.run_bind, hr, Result.andThen_ok]
  exact h
theorem o_st56 (x y : Operand) (ho : o.op = .store 56 x y) (_ : o.dst = none) (b i TT : Nat) (us : List Value) (v : Value) (hx : a.eval x = .pointer (some ⟨b, i, none⟩)) (hy : a.eval y = v) (hv : ∃ ao m c, v = .slice ao m c) (hB : Blk w b TT us) (hi : i < us.length)
    (h : ∀ W, Blk W b TT (us.set i v) → Kept [b] w W → K (a.put o.dst undef) W) : o.wp Try.prog a w K Q := by
  obtain ⟨ao, m, c, rfl⟩ := hv
  have hst := st56 w b TT i us ao m c hB hi
  have := h _ (hB.set (i := i) (.slice ao m c)) ((Kept.refl _ _).setCell (by simp) _)
  unfold Oper.wp execOp
  simp only [ho, hx, hy, Instr.storeAt, Instr.sureAddr, Sem.run_bind, Sem.run_pure, Result.andThen_ok, hst]
  exact this
end
theorem cg55 (vs : Array Value) (w : World) : (callFunc 55 vs).run Try.prog w = .ok (.enter 55 vs) w := by kernel_rfl
theorem owns_sl {w : World} {base e n : Nat} {v : Value} {xs : List Value} (h : w.ownsRow base e 1 v n xs) : ∃ ao m c, v = .slice ao m c := by
  obtain ⟨ao, c, e, _⟩ := owns_vals h
  exact ⟨ao, n, c, e⟩
/-- What region 4 keeps. -/
@[reducible] def S4 (w : World) (mb : Nat) (L : List Ltr) (k fr to : Int) (bs : List Int) (b15 : Bool) (v15 : Value) (b16 : Bool) (v16 : Value) (b17 : Bool) (W : World) : Prop :=
  (b17 = false → Kept [] w W ∧ (b15 = true → Bod W v15 bs ∧ ∀ i, v15.ownBlock = some i → w.heap.size ≤ i) ∧ (b16 = true → b15 = true ∧ v16 = aggV (Ltr.C ⟨k, fr, to, v15, bs⟩))) ∧
  (b17 = true → ∃ u, MapAt W mb (L ++ [⟨k, fr, to, u, bs⟩]) ∧ Bod W u bs ∧ (∀ i, u.ownBlock = some i → w.heap.size ≤ i) ∧ Kept [mb] w W)
/-- What region 5 keeps. -/
@[reducible] def S5 (w : World) (b : Nat) (hd : List Value) (v : Value) (L : List Value) (k : Int) (b9 : Bool) (v9 : Value) (b10 : Bool) (v10 : Value) (b13 : Bool) (W : World) : Prop :=
  (b10 = false → Kept [] w W ∧ (b9 = true → ∃ p, v9 = .slice (some ⟨p, 0, none⟩) 1 1 ∧ W.cell? ⟨p, 0, none⟩ = some (.int .i64 k))) ∧
  (b10 = true → b13 = false → W.ownsRow 0 2 1 v10 (L.length + 1) (L ++ [.int .i64 k]) ∧ Kept v.ownBlock.toList w W ∧ ∀ i, v10.ownBlock = some i → v.ownBlock = some i ∨ w.heap.size ≤ i) ∧
  (b13 = true → ∃ u, W.ownsRow 0 2 1 u (L.length + 1) (L ++ [.int .i64 k]) ∧ Blk W b 58 (hd.set 3 u) ∧ Kept (b :: v.ownBlock.toList) w W ∧ ∀ i, u.ownBlock = some i → v.ownBlock = some i ∨ w.heap.size ≤ i)
theorem kept_grow {X : List Nat} {a b c : World} {row : Option Nat} (h : Kept X a b) (hg : b.grownBy c row) (hr : ∀ k, row = some k → k ∈ X) : Kept X a c :=
  ⟨hg.os.trans h.os, hg.tape.trans h.tape, hg.output.trans h.output, Nat.le_trans h.size hg.size, fun i hi hx => (hg.block i (by have := h.size; omega) (fun e => hx (hr i e.symm))).trans (h.block i hi hx)⟩
theorem not_in_own {W : World} {b TT n e : Nat} {us : List Value} {v : Value} {xs : List Value} (hB : Blk W b TT us) (ho : W.ownsRow 0 e 1 v n xs) (hne : TT ≠ e) : v.ownBlock ≠ some b := by
  intro h
  obtain ⟨cs, hc⟩ := owns_block ho b h
  unfold Blk at hB
  rw [hB] at hc
  injection hc with hc
  injection hc with h1 h2
  exact hne h2
set_option maxHeartbeats 4000000 in
set_option maxRecDepth 100000 in
theorem put_yesF (b mb : Nat) (v : Value) (N : Nn) (fr to : Int) (ao : Option Addr) (m c : Nat) (bs : List Int) (w : World) (h : Nt w b mb v N) (hV : Vals w ao m c (u8s bs)) (hnil : ao = none → m = 0 ∧ c = 0) (hby : ∀ x ∈ bs, 0 ≤ x ∧ x < 256) (hA : bs ≠ [] → ∀ h off, ao = some ⟨h, off, none⟩ → h ≠ b) (hm : m ≤ 512) (hfr : 0 ≤ fr ∧ fr < N.nodes) (hto : 0 ≤ to ∧ to < N.nodes) (hla : N.last ≤ 1000000000000) (hroom : N.L.length < 4096) :
    Calls Try.prog 42 #[P0 b, .int .i64 fr, .int .i64 to, .slice ao m c] w fun e w' => ∃ v' u, e = .returned (.tuple #[.int .i64 (N.last + 1), .int .i64 0]) ∧ Nt w' b mb v' ⟨N.nodes, N.last + 1, N.L ++ [⟨N.last + 1, fr, to, u, bs⟩]⟩ ∧ Kept (nX b mb v) w w' ∧ (∀ i, v'.ownBlock = some i → v.ownBlock = some i ∨ w.heap.size ≤ i) ∧ ∀ i, u.ownBlock = some i → w.heap.size ≤ i := by
  obtain ⟨oo, oc, rfl, _, _⟩ := owns_vals h.ord
  obtain ⟨nodes, la, L⟩ := N
  simp only at *
  have hc1 := h.cells.2.1
  have hc3 := h.cells.2.2.2
  simp only at hc1 hc3
  have hl0 := h.last
  simp only at hl0
  have hw : IntKind.i64.wrap (la + 1) = la + 1 := by rw [IntKind.wrap_i64]; omega
  have hlt : (L.length : Int) < 4096 := by omega
  have HH := hide h.head
  have HNO : Hid (placeOf (la + 1) L 0 = none) := placeOf_no fun l hl => by have := (h.num l hl).2; simp only at this; omega
  have HN := hide h
  have PV := hide (fun W (hk : Kept [b] w W) => (⟨hV.len, hV.cap, fun hne => by
    obtain ⟨g, off, e, hr⟩ := hV.lies hne
    exact ⟨g, off, e, fun j u hj => hk.cell (hr j u hj) (by simp; exact hA (fun e => hne (by rw [e]; rfl)) g off e)⟩⟩ : Vals W ao m c (u8s bs)))
  have HY := hide hby
  have HNI := hide hnil
  have HLB : Hid (bs.length = m) := by have := hV.len; rw [u8s_len] at this; exact this
  have HEF := hide hfr
  have HET := hide hto
  clear h hV hA hnil hby hfr hto
  go_enter Try.func42, Try.ntmps42
  go_wp2_with (
    first
    | (refine wpStoreV (T := 2) (b := b) (i := 1) (v := .int .i64 (la + 1)) (by rfl) (.tmp 22) (.tmp 20) (by rfl) (by rfl) (by kernel_rfl) (by kernel_rfl) 58 _ (unhide HH) (st2 _ _ _ _ _ _ (unhide HH) (by simp)) ?_
       intro W1 B1 K1
       have HB : Hid (Blk W1 b 58 [.int .i64 nodes, .int .i64 (la + 1), .map (some mb), .slice oo L.length oc]) := B1
       have HK := hide K1
       have PC := hide (fun W (hk : Kept [] W1 W) => clone55 ao m c bs W ((unhide PV W1 K1).kept hk (fun _ _ _ => by simp)) (unhide HNI) (unhide HY) (by omega))
       have HM : Hid (MapAt W1 mb L) := (unhide HN).map.kept K1 (by obtain ⟨es, cl, h1, _⟩ := (unhide HN).map; simp; intro e; subst e; have := (unhide HN).head; unfold Blk at this; rw [h1] at this; cases this)
       have HLT : Hid (mb < W1.heap.size) := by obtain ⟨es, cl, h1, _⟩ := unhide HM; exact lt_of_block h1
       clear B1 K1 hc1 hc3))
  refine wp_region_any mixed (wpAny_gx 18 rfl (by kernel_rfl) [some (P0 b), some (P0 b), some (.pointer (some ⟨b, 2, none⟩)), some (.map (some mb)), some (P0 b), some (P0 b), some (.pointer (some ⟨b, 1, none⟩)), some (.int .i64 (la + 1)), some (P0 b), some (P0 b), some (.pointer (some ⟨b, 1, none⟩)), some (.int .i64 (la + 1)), some (.int .i64 fr), some (.int .i64 to), some (.slice ao m c), none, none, none] rfl (by kernel_rfl) (fun l vs W => (S4 W1 mb L (la + 1) fr to bs) (l.getD 15 false) (vs 15) (l.getD 16 false) (vs 16) (l.getD 17 false) W) (⟨fun _ => ⟨⟨rfl, rfl, rfl, Nat.le_refl _, fun _ _ _ => rfl⟩, (fun h => by cases h), fun h => by cases h⟩, fun h => by cases h⟩) ?_ ?_)
  · intro ix o' hi ho a' w2 l vs hls hlf hJ hout hin hdep hnot
    match ix, ho with
    | 0, ho =>
      obtain rfl := Option.some.inj ho
      have e0 := hout 0 (by kernel_rfl)
      replace e0 : a'.eval (.tmp 0) = _ := e0.trans rfl
      exact wp_move (.tmp 0) rfl _ e0 ⟨_, rfl, told_of rfl, keep3 (St := (S4 W1 mb L (la + 1) fr to bs)) (by omega) (by decide) (by decide) (by decide) hJ⟩
    | 1, ho =>
      obtain rfl := Option.some.inj ho
      have e0 : a'.eval (.tmp 23) = P0 b := by have h9 := hin 0 23 (by kernel_rfl) (by kernel_rfl); exact h9.1.trans (told_is _ h9.2 rfl)
      exact o_nil (.tmp 23) rfl _ e0 ⟨_, rfl, told_of rfl, keep3 (St := (S4 W1 mb L (la + 1) fr to bs)) (by omega) (by decide) (by decide) (by decide) hJ⟩
    | 2, ho =>
      obtain rfl := Option.some.inj ho
      have e0 : a'.eval (.tmp 24) = P0 b := by have h9 := hin 1 24 (by kernel_rfl) (by kernel_rfl); exact h9.1.trans (told_is _ h9.2 rfl)
      exact o_fld58_2 (.tmp 24) rfl _ e0 ⟨_, rfl, told_of rfl, keep3 (St := (S4 W1 mb L (la + 1) fr to bs)) (by omega) (by decide) (by decide) (by decide) hJ⟩
    | 3, ho =>
      obtain rfl := Option.some.inj ho
      have e0 : a'.eval (.tmp 25) = .pointer (some ⟨b, 2, none⟩) := by have h9 := hin 2 25 (by kernel_rfl) (by kernel_rfl); exact h9.1.trans (told_is _ h9.2 rfl)
      exact o_load55 (.tmp 25) rfl _ _ e0 (fits_cell ((unhide HB).kept ((hJ.1 (hnot 17 (by kernel_rfl))).1) (by simp)) 2 _ rfl) ⟨_, rfl, told_of rfl, keep3 (St := (S4 W1 mb L (la + 1) fr to bs)) (by omega) (by decide) (by decide) (by decide) hJ⟩
    | 4, ho =>
      obtain rfl := Option.some.inj ho
      have e0 := hout 0 (by kernel_rfl)
      replace e0 : a'.eval (.tmp 0) = _ := e0.trans rfl
      exact wp_move (.tmp 0) rfl _ e0 ⟨_, rfl, told_of rfl, keep3 (St := (S4 W1 mb L (la + 1) fr to bs)) (by omega) (by decide) (by decide) (by decide) hJ⟩
    | 5, ho =>
      obtain rfl := Option.some.inj ho
      have e0 : a'.eval (.tmp 27) = P0 b := by have h9 := hin 4 27 (by kernel_rfl) (by kernel_rfl); exact h9.1.trans (told_is _ h9.2 rfl)
      exact o_nil (.tmp 27) rfl _ e0 ⟨_, rfl, told_of rfl, keep3 (St := (S4 W1 mb L (la + 1) fr to bs)) (by omega) (by decide) (by decide) (by decide) hJ⟩
    | 6, ho =>
      obtain rfl := Option.some.inj ho
      have e0 : a'.eval (.tmp 28) = P0 b := by have h9 := hin 5 28 (by kernel_rfl) (by kernel_rfl); exact h9.1.trans (told_is _ h9.2 rfl)
      exact o_fld58_1 (.tmp 28) rfl _ e0 ⟨_, rfl, told_of rfl, keep3 (St := (S4 W1 mb L (la + 1) fr to bs)) (by omega) (by decide) (by decide) (by decide) hJ⟩
    | 7, ho =>
      obtain rfl := Option.some.inj ho
      have e0 : a'.eval (.tmp 29) = .pointer (some ⟨b, 1, none⟩) := by have h9 := hin 6 29 (by kernel_rfl) (by kernel_rfl); exact h9.1.trans (told_is _ h9.2 rfl)
      exact o_load2 (.tmp 29) rfl _ _ e0 (fits_cell ((unhide HB).kept ((hJ.1 (hnot 17 (by kernel_rfl))).1) (by simp)) 1 _ rfl) ⟨_, rfl, told_of rfl, keep3 (St := (S4 W1 mb L (la + 1) fr to bs)) (by omega) (by decide) (by decide) (by decide) hJ⟩
    | 8, ho =>
      obtain rfl := Option.some.inj ho
      have e0 := hout 0 (by kernel_rfl)
      replace e0 : a'.eval (.tmp 0) = _ := e0.trans rfl
      exact wp_move (.tmp 0) rfl _ e0 ⟨_, rfl, told_of rfl, keep3 (St := (S4 W1 mb L (la + 1) fr to bs)) (by omega) (by decide) (by decide) (by decide) hJ⟩
    | 9, ho =>
      obtain rfl := Option.some.inj ho
      have e0 : a'.eval (.tmp 31) = P0 b := by have h9 := hin 8 31 (by kernel_rfl) (by kernel_rfl); exact h9.1.trans (told_is _ h9.2 rfl)
      exact o_nil (.tmp 31) rfl _ e0 ⟨_, rfl, told_of rfl, keep3 (St := (S4 W1 mb L (la + 1) fr to bs)) (by omega) (by decide) (by decide) (by decide) hJ⟩
    | 10, ho =>
      obtain rfl := Option.some.inj ho
      have e0 : a'.eval (.tmp 32) = P0 b := by have h9 := hin 9 32 (by kernel_rfl) (by kernel_rfl); exact h9.1.trans (told_is _ h9.2 rfl)
      exact o_fld58_1 (.tmp 32) rfl _ e0 ⟨_, rfl, told_of rfl, keep3 (St := (S4 W1 mb L (la + 1) fr to bs)) (by omega) (by decide) (by decide) (by decide) hJ⟩
    | 11, ho =>
      obtain rfl := Option.some.inj ho
      have e0 : a'.eval (.tmp 33) = .pointer (some ⟨b, 1, none⟩) := by have h9 := hin 10 33 (by kernel_rfl) (by kernel_rfl); exact h9.1.trans (told_is _ h9.2 rfl)
      exact o_load2 (.tmp 33) rfl _ _ e0 (fits_cell ((unhide HB).kept ((hJ.1 (hnot 17 (by kernel_rfl))).1) (by simp)) 1 _ rfl) ⟨_, rfl, told_of rfl, keep3 (St := (S4 W1 mb L (la + 1) fr to bs)) (by omega) (by decide) (by decide) (by decide) hJ⟩
    | 12, ho =>
      obtain rfl := Option.some.inj ho
      have e0 := hout 1 (by kernel_rfl)
      replace e0 : a'.eval (.tmp 1) = _ := e0.trans rfl
      exact wp_move (.tmp 1) rfl _ e0 ⟨_, rfl, told_of rfl, keep3 (St := (S4 W1 mb L (la + 1) fr to bs)) (by omega) (by decide) (by decide) (by decide) hJ⟩
    | 13, ho =>
      obtain rfl := Option.some.inj ho
      have e0 := hout 2 (by kernel_rfl)
      replace e0 : a'.eval (.tmp 2) = _ := e0.trans rfl
      exact wp_move (.tmp 2) rfl _ e0 ⟨_, rfl, told_of rfl, keep3 (St := (S4 W1 mb L (la + 1) fr to bs)) (by omega) (by decide) (by decide) (by decide) hJ⟩
    | 14, ho =>
      obtain rfl := Option.some.inj ho
      have e0 := hout 3 (by kernel_rfl)
      replace e0 : a'.eval (.tmp 3) = _ := e0.trans rfl
      exact wp_move (.tmp 3) rfl _ e0 ⟨_, rfl, told_of rfl, keep3 (St := (S4 W1 mb L (la + 1) fr to bs)) (by omega) (by decide) (by decide) (by decide) hJ⟩
    | 15, ho =>
      obtain rfl := Option.some.inj ho
      have e0 : a'.eval (.tmp 37) = .slice ao m c := by have h9 := hin 14 37 (by kernel_rfl) (by kernel_rfl); exact h9.1.trans (told_is _ h9.2 rfl)
      refine wp_callF 55 _ _ rfl #[.slice ao m c] (by simp [e0]) (cg55 _ _) ((unhide PC _ ((hJ.1 (hnot 17 (by kernel_rfl))).1)).mono ?_)
      rintro e w3 ⟨u, rfl, hBu, hFu, hku⟩
      exact ⟨_, rfl, _, rfl, told_no rfl, next3a (St := (S4 W1 mb L (la + 1) fr to bs)) (by omega) (by decide) (by decide) ⟨fun _ => ⟨((hJ.1 (hnot 17 (by kernel_rfl))).1).trans hku, fun _ => ⟨hBu, fun i hi => by have := hFu i hi; have := ((hJ.1 (hnot 17 (by kernel_rfl))).1).size; omega⟩, fun h16 => by rw [hnot 16 (by kernel_rfl)] at h16; cases h16⟩, fun h17 => by rw [hnot 17 (by kernel_rfl)] at h17; cases h17⟩⟩
    | 16, ho =>
      obtain rfl := Option.some.inj ho
      have e0 : a'.eval (.tmp 34) = .int .i64 (la + 1) := by have h9 := hin 11 34 (by kernel_rfl) (by kernel_rfl); exact h9.1.trans (told_is _ h9.2 rfl)
      have e1 : a'.eval (.tmp 35) = .int .i64 fr := by have h9 := hin 12 35 (by kernel_rfl) (by kernel_rfl); exact h9.1.trans (told_is _ h9.2 rfl)
      have e2 : a'.eval (.tmp 36) = .int .i64 to := by have h9 := hin 13 36 (by kernel_rfl) (by kernel_rfl); exact h9.1.trans (told_is _ h9.2 rfl)
      have e3 : a'.eval (.tmp 38) = vs 15 := (hin 15 38 (by kernel_rfl) (by kernel_rfl)).1
      have hj15 := (hJ.1 (hnot 17 (by kernel_rfl))).2.1 (hdep 15 (by kernel_rfl))
      obtain ⟨a15, c15, hv15, _⟩ := hj15.1.sl
      exact wp_buildP #[(0, .tmp 34), (1, .tmp 35), (2, .tmp 36), (3, .tmp 38)] rfl #[(0, .int .i64 (la + 1)), (1, .int .i64 fr), (2, .int .i64 to), (3, vs 15)] (by simp [e0, e1, e2, e3]) (Ltr.C ⟨la + 1, fr, to, vs 15, bs⟩) (by rw [hv15]; unfold Ltr.C; kernel_rfl) ⟨_, rfl, told_no rfl, next3b (St := (S4 W1 mb L (la + 1) fr to bs)) (by omega) (by decide) (by decide) ⟨fun h17 => ⟨(hJ.1 h17).1, (hJ.1 h17).2.1, fun _ => ⟨hdep 15 (by kernel_rfl), rfl⟩⟩, fun h17 => by rw [hnot 17 (by kernel_rfl)] at h17; cases h17⟩⟩
    | 17, ho =>
      obtain rfl := Option.some.inj ho
      have e0 : a'.eval (.tmp 26) = .map (some mb) := by have h9 := hin 3 26 (by kernel_rfl) (by kernel_rfl); exact h9.1.trans (told_is _ h9.2 rfl)
      have e1 : a'.eval (.tmp 30) = .int .i64 (la + 1) := by have h9 := hin 7 30 (by kernel_rfl) (by kernel_rfl); exact h9.1.trans (told_is _ h9.2 rfl)
      have e2 : a'.eval (.tmp 39) = vs 16 := (hin 16 39 (by kernel_rfl) (by kernel_rfl)).1
      have hj := hJ.1 hlf
      have h16 := hj.2.2 (hdep 16 (by kernel_rfl))
      have h15 := hj.2.1 h16.1
      exact o_upd (.tmp 26) (.tmp 30) (.tmp 39) rfl rfl mb L ⟨la + 1, fr, to, vs 15, bs⟩ e0 e1 (e2.trans h16.2) ((unhide HM).kept hj.1 (by simp)) (unhide HNO) fun W hM hk => ⟨_, rfl, told_no rfl, next3c (St := (S4 W1 mb L (la + 1) fr to bs)) (v := undef) (by omega) (by decide) (by decide) ⟨(fun h => by cases h), fun _ => ⟨vs 15, hM, h15.1.kept hk (fun i hi => by have h9 := h15.2 i hi; have h8 := unhide HLT; simp; omega), h15.2, (hj.1.mono (by simp)).trans hk⟩⟩⟩
  intro l vs w9 hl hJ htold
  have t0 : vs 0 = P0 b := told_is _ (htold 0 (by decide)) rfl
  have t1 : vs 1 = P0 b := told_is _ (htold 1 (by decide)) rfl
  have t2 : vs 2 = .pointer (some ⟨b, 2, none⟩) := told_is _ (htold 2 (by decide)) rfl
  have t3 : vs 3 = .map (some mb) := told_is _ (htold 3 (by decide)) rfl
  have t4 : vs 4 = P0 b := told_is _ (htold 4 (by decide)) rfl
  have t5 : vs 5 = P0 b := told_is _ (htold 5 (by decide)) rfl
  have t6 : vs 6 = .pointer (some ⟨b, 1, none⟩) := told_is _ (htold 6 (by decide)) rfl
  have t7 : vs 7 = .int .i64 (la + 1) := told_is _ (htold 7 (by decide)) rfl
  have t8 : vs 8 = P0 b := told_is _ (htold 8 (by decide)) rfl
  have t9 : vs 9 = P0 b := told_is _ (htold 9 (by decide)) rfl
  have t10 : vs 10 = .pointer (some ⟨b, 1, none⟩) := told_is _ (htold 10 (by decide)) rfl
  have t11 : vs 11 = .int .i64 (la + 1) := told_is _ (htold 11 (by decide)) rfl
  have t12 : vs 12 = .int .i64 fr := told_is _ (htold 12 (by decide)) rfl
  have t13 : vs 13 = .int .i64 to := told_is _ (htold 13 (by decide)) rfl
  have t14 : vs 14 = .slice ao m c := told_is _ (htold 14 (by decide)) rfl
  have hl15 := hl 15 (by decide)
  have hl16 := hl 16 (by decide)
  have hl17 := hl 17 (by decide)
  rw [hl15, hl16, hl17] at hJ
  rw [show (List.range 18).map vs = [vs 0, vs 1, vs 2, vs 3, vs 4, vs 5, vs 6, vs 7, vs 8, vs 9, vs 10, vs 11, vs 12, vs 13, vs 14, vs 15, vs 16, vs 17] from rfl]
  simp only [t0, t1, t2, t3, t4, t5, t6, t7, t8, t9, t10, t11, t12, t13, t14, putAll, Act.put, List.setIfInBounds_toArray, List.set_cons_succ, List.set_cons_zero]
  clear t0 t1 t2 t3 t4 t5 t6 t7 t8 t9 t10 t11 t12 t13 t14 htold hl hl15 hl16 hl17
  obtain ⟨u, hM, hBu, hFu, hK4⟩ := hJ.2 rfl
  obtain ⟨W5, hW5⟩ : ∃ W5, w9 = W5 := ⟨_, rfl⟩
  subst hW5
  have hbm : b ≠ mb := by
    intro e
    subst e
    obtain ⟨es, cl, h1, _⟩ := unhide HM
    have := unhide HB
    unfold Blk at this
    rw [h1] at this
    cases this
  replace HB := hide ((unhide HB).kept hK4 (by simp; exact hbm))
  have HO : Hid (w9.ownsRow 0 2 1 (.slice oo L.length oc) L.length (nums L)) := by
    have h1 := (unhide HN).ord
    have e1 := not_in_own (unhide HN).head h1 (by decide)
    refine owns_keptX (owns_keptX h1 (unhide HK) (fun k hk => by simp; intro e; subst e; exact e1 hk)) hK4 (fun k hk => ?_)
    obtain ⟨cs, hc⟩ := owns_block h1 k hk
    simp
    exact map_not_cells (unhide HN).map hc
  have HM4 := hide hM
  have HBU := hide hBu
  have HFU := hide hFu
  have HSZ := hide (unhide HK).size
  replace HK : Hid (Kept [b, mb] w w9) := ((unhide HK).mono (by simp)).trans (hK4.mono (by simp))
  have HBM := hide hbm
  clear hJ hM hBu hFu hK4 HM HNO HLT PC hbm
  go_wp2_with fail
  refine wp_region_any mixed (wpAny_gx 14 rfl (by kernel_rfl) [some (P0 b), some (P0 b), some (P0 b), some (.pointer (some ⟨b, 3, none⟩)), some (.slice oo L.length oc), some (P0 b), some (P0 b), some (.pointer (some ⟨b, 1, none⟩)), some (.int .i64 (la + 1)), none, none, some (P0 b), some (.pointer (some ⟨b, 3, none⟩)), none] rfl (by kernel_rfl) (fun l vs W => (S5 w9 b [.int .i64 nodes, .int .i64 (la + 1), .map (some mb), .slice oo L.length oc] (.slice oo L.length oc) (nums L) (la + 1)) (l.getD 9 false) (vs 9) (l.getD 10 false) (vs 10) (l.getD 13 false) W) (⟨fun _ => ⟨⟨rfl, rfl, rfl, Nat.le_refl _, fun _ _ _ => rfl⟩, fun h => by cases h⟩, (fun h => by cases h), fun h => by cases h⟩) ?_ ?_)
  · intro ix o' hi ho a' w2 l vs hls hlf hJ hout hin hdep hnot
    match ix, ho with
    | 0, ho =>
      obtain rfl := Option.some.inj ho
      have e0 := hout 0 (by kernel_rfl)
      replace e0 : a'.eval (.tmp 0) = _ := e0.trans rfl
      exact wp_move (.tmp 0) rfl _ e0 ⟨_, rfl, told_of rfl, keep3 (St := (S5 w9 b [.int .i64 nodes, .int .i64 (la + 1), .map (some mb), .slice oo L.length oc] (.slice oo L.length oc) (nums L) (la + 1))) (by omega) (by decide) (by decide) (by decide) hJ⟩
    | 1, ho =>
      obtain rfl := Option.some.inj ho
      have e0 := hout 0 (by kernel_rfl)
      replace e0 : a'.eval (.tmp 0) = _ := e0.trans rfl
      exact wp_move (.tmp 0) rfl _ e0 ⟨_, rfl, told_of rfl, keep3 (St := (S5 w9 b [.int .i64 nodes, .int .i64 (la + 1), .map (some mb), .slice oo L.length oc] (.slice oo L.length oc) (nums L) (la + 1))) (by omega) (by decide) (by decide) (by decide) hJ⟩
    | 2, ho =>
      obtain rfl := Option.some.inj ho
      have e0 : a'.eval (.tmp 41) = P0 b := by have h9 := hin 1 41 (by kernel_rfl) (by kernel_rfl); exact h9.1.trans (told_is _ h9.2 rfl)
      exact o_nil (.tmp 41) rfl _ e0 ⟨_, rfl, told_of rfl, keep3 (St := (S5 w9 b [.int .i64 nodes, .int .i64 (la + 1), .map (some mb), .slice oo L.length oc] (.slice oo L.length oc) (nums L) (la + 1))) (by omega) (by decide) (by decide) (by decide) hJ⟩
    | 3, ho =>
      obtain rfl := Option.some.inj ho
      have e0 : a'.eval (.tmp 42) = P0 b := by have h9 := hin 2 42 (by kernel_rfl) (by kernel_rfl); exact h9.1.trans (told_is _ h9.2 rfl)
      exact o_fld58_3 (.tmp 42) rfl _ e0 ⟨_, rfl, told_of rfl, keep3 (St := (S5 w9 b [.int .i64 nodes, .int .i64 (la + 1), .map (some mb), .slice oo L.length oc] (.slice oo L.length oc) (nums L) (la + 1))) (by omega) (by decide) (by decide) (by decide) hJ⟩
    | 4, ho =>
      obtain rfl := Option.some.inj ho
      have e0 : a'.eval (.tmp 43) = .pointer (some ⟨b, 3, none⟩) := by have h9 := hin 3 43 (by kernel_rfl) (by kernel_rfl); exact h9.1.trans (told_is _ h9.2 rfl)
      exact o_load56 (.tmp 43) rfl _ _ e0 (fits_cell ((unhide HB).kept ((hJ.1 (hnot 10 (by kernel_rfl))).1) (by simp)) 3 _ rfl) ⟨_, rfl, told_of rfl, keep3 (St := (S5 w9 b [.int .i64 nodes, .int .i64 (la + 1), .map (some mb), .slice oo L.length oc] (.slice oo L.length oc) (nums L) (la + 1))) (by omega) (by decide) (by decide) (by decide) hJ⟩
    | 5, ho =>
      obtain rfl := Option.some.inj ho
      have e0 := hout 0 (by kernel_rfl)
      replace e0 : a'.eval (.tmp 0) = _ := e0.trans rfl
      exact wp_move (.tmp 0) rfl _ e0 ⟨_, rfl, told_of rfl, keep3 (St := (S5 w9 b [.int .i64 nodes, .int .i64 (la + 1), .map (some mb), .slice oo L.length oc] (.slice oo L.length oc) (nums L) (la + 1))) (by omega) (by decide) (by decide) (by decide) hJ⟩
    | 6, ho =>
      obtain rfl := Option.some.inj ho
      have e0 : a'.eval (.tmp 45) = P0 b := by have h9 := hin 5 45 (by kernel_rfl) (by kernel_rfl); exact h9.1.trans (told_is _ h9.2 rfl)
      exact o_nil (.tmp 45) rfl _ e0 ⟨_, rfl, told_of rfl, keep3 (St := (S5 w9 b [.int .i64 nodes, .int .i64 (la + 1), .map (some mb), .slice oo L.length oc] (.slice oo L.length oc) (nums L) (la + 1))) (by omega) (by decide) (by decide) (by decide) hJ⟩
    | 7, ho =>
      obtain rfl := Option.some.inj ho
      have e0 : a'.eval (.tmp 46) = P0 b := by have h9 := hin 6 46 (by kernel_rfl) (by kernel_rfl); exact h9.1.trans (told_is _ h9.2 rfl)
      exact o_fld58_1 (.tmp 46) rfl _ e0 ⟨_, rfl, told_of rfl, keep3 (St := (S5 w9 b [.int .i64 nodes, .int .i64 (la + 1), .map (some mb), .slice oo L.length oc] (.slice oo L.length oc) (nums L) (la + 1))) (by omega) (by decide) (by decide) (by decide) hJ⟩
    | 8, ho =>
      obtain rfl := Option.some.inj ho
      have e0 : a'.eval (.tmp 47) = .pointer (some ⟨b, 1, none⟩) := by have h9 := hin 7 47 (by kernel_rfl) (by kernel_rfl); exact h9.1.trans (told_is _ h9.2 rfl)
      exact o_load2 (.tmp 47) rfl _ _ e0 (fits_cell ((unhide HB).kept ((hJ.1 (hnot 10 (by kernel_rfl))).1) (by simp)) 1 _ rfl) ⟨_, rfl, told_of rfl, keep3 (St := (S5 w9 b [.int .i64 nodes, .int .i64 (la + 1), .map (some mb), .slice oo L.length oc] (.slice oo L.length oc) (nums L) (la + 1))) (by omega) (by decide) (by decide) (by decide) hJ⟩
    | 9, ho =>
      obtain rfl := Option.some.inj ho
      have e0 : a'.eval (.tmp 48) = .int .i64 (la + 1) := by have h9 := hin 8 48 (by kernel_rfl) (by kernel_rfl); exact h9.1.trans (told_is _ h9.2 rfl)
      exact o_bs1 (.tmp 48) rfl (la + 1) e0 ⟨_, rfl, told_no rfl, next3a (St := (S5 w9 b [.int .i64 nodes, .int .i64 (la + 1), .map (some mb), .slice oo L.length oc] (.slice oo L.length oc) (nums L) (la + 1))) (by omega) (by decide) (by decide) ⟨fun _ => ⟨((hJ.1 (hnot 10 (by kernel_rfl))).1).alloc _, fun _ => ⟨w2.heap.size, rfl, fits_cell (Blk.new w2 2 [.int .i64 (la + 1)]) 0 _ rfl⟩⟩, (fun h10 => by rw [hnot 10 (by kernel_rfl)] at h10; cases h10), fun h13 => by rw [hnot 13 (by kernel_rfl)] at h13; cases h13⟩⟩
    | 10, ho =>
      obtain rfl := Option.some.inj ho
      have e0 : a'.eval (.tmp 44) = .slice oo L.length oc := by have h9 := hin 4 44 (by kernel_rfl) (by kernel_rfl); exact h9.1.trans (told_is _ h9.2 rfl)
      have e1 : a'.eval (.tmp 49) = vs 9 := (hin 9 49 (by kernel_rfl) (by kernel_rfl)).1
      have hj := hJ.1 hlf
      obtain ⟨p, hv9, hcell⟩ := hj.2 (hdep 9 (by kernel_rfl))
      exact o_app1 (.tmp 44) (.tmp 49) rfl (.slice oo L.length oc) (nums L) e0 (by rw [nums_len]; exact owns_keptX (unhide HO) hj.1 (by simp)) p (.int .i64 (la + 1)) (e1.trans hv9) hcell rfl (by rw [nums_len]; omega) fun v' w' h2 h3 h5 => ⟨_, rfl, told_no rfl, next3b (St := (S5 w9 b [.int .i64 nodes, .int .i64 (la + 1), .map (some mb), .slice oo L.length oc] (.slice oo L.length oc) (nums L) (la + 1))) (by omega) (by decide) (by decide) ⟨(fun h => by cases h), fun _ _ => ⟨h2, kept_grow (hj.1.mono (by simp)) h3 (fun k hk => by rw [hk]; simp), fun i hi => by
          rcases h5 with h5 | h5
          · exact .inl (h5 ▸ hi)
          · rw [h5] at hi; cases hi; exact .inr hj.1.size⟩, fun h13 => by rw [hnot 13 (by kernel_rfl)] at h13; cases h13⟩⟩
    | 11, ho =>
      obtain rfl := Option.some.inj ho
      have e0 : a'.eval (.tmp 40) = P0 b := by have h9 := hin 0 40 (by kernel_rfl) (by kernel_rfl); exact h9.1.trans (told_is _ h9.2 rfl)
      exact o_nil (.tmp 40) rfl _ e0 ⟨_, rfl, told_of rfl, keep3 (St := (S5 w9 b [.int .i64 nodes, .int .i64 (la + 1), .map (some mb), .slice oo L.length oc] (.slice oo L.length oc) (nums L) (la + 1))) (by omega) (by decide) (by decide) (by decide) hJ⟩
    | 12, ho =>
      obtain rfl := Option.some.inj ho
      have e0 : a'.eval (.tmp 51) = P0 b := by have h9 := hin 11 51 (by kernel_rfl) (by kernel_rfl); exact h9.1.trans (told_is _ h9.2 rfl)
      exact o_fld58_3 (.tmp 51) rfl _ e0 ⟨_, rfl, told_of rfl, keep3 (St := (S5 w9 b [.int .i64 nodes, .int .i64 (la + 1), .map (some mb), .slice oo L.length oc] (.slice oo L.length oc) (nums L) (la + 1))) (by omega) (by decide) (by decide) (by decide) hJ⟩
    | 13, ho =>
      obtain rfl := Option.some.inj ho
      have e0 : a'.eval (.tmp 52) = .pointer (some ⟨b, 3, none⟩) := by have h9 := hin 12 52 (by kernel_rfl) (by kernel_rfl); exact h9.1.trans (told_is _ h9.2 rfl)
      have e1 : a'.eval (.tmp 50) = vs 10 := (hin 10 50 (by kernel_rfl) (by kernel_rfl)).1
      have h10 := hdep 10 (by kernel_rfl)
      obtain ⟨hO, hk, hf⟩ := hJ.2.1 h10 hlf
      have hB9 := (unhide HB).kept hk (by rw [Option.mem_toList]; exact not_in_own (unhide HB) (unhide HO) (by decide))
      exact o_st56 (.tmp 52) (.tmp 50) rfl rfl b 3 58 _ (vs 10) e0 e1 (owns_sl hO) hB9 (by simp) fun W hBW hkW => ⟨_, rfl, told_no rfl, next3c (St := (S5 w9 b [.int .i64 nodes, .int .i64 (la + 1), .map (some mb), .slice oo L.length oc] (.slice oo L.length oc) (nums L) (la + 1))) (v := undef) (by omega) (by decide) (by decide) ⟨(fun h => by rw [h10] at h; cases h), (fun _ h => by cases h), fun _ => ⟨vs 10, owns_keptX hO hkW (fun k hk => by simp; intro e; subst e; exact not_in_own hB9 hO (by decide) hk), hBW, (hk.mono (fun k hk => List.mem_cons_of_mem _ hk)).trans (hkW.mono (by simp)), hf⟩⟩⟩
  intro l5 vs5 w5 hl hJ htold
  have t0 : vs5 0 = P0 b := told_is _ (htold 0 (by decide)) rfl
  have t1 : vs5 1 = P0 b := told_is _ (htold 1 (by decide)) rfl
  have t2 : vs5 2 = P0 b := told_is _ (htold 2 (by decide)) rfl
  have t3 : vs5 3 = .pointer (some ⟨b, 3, none⟩) := told_is _ (htold 3 (by decide)) rfl
  have t4 : vs5 4 = .slice oo L.length oc := told_is _ (htold 4 (by decide)) rfl
  have t5 : vs5 5 = P0 b := told_is _ (htold 5 (by decide)) rfl
  have t6 : vs5 6 = P0 b := told_is _ (htold 6 (by decide)) rfl
  have t7 : vs5 7 = .pointer (some ⟨b, 1, none⟩) := told_is _ (htold 7 (by decide)) rfl
  have t8 : vs5 8 = .int .i64 (la + 1) := told_is _ (htold 8 (by decide)) rfl
  have t11 : vs5 11 = P0 b := told_is _ (htold 11 (by decide)) rfl
  have t12 : vs5 12 = .pointer (some ⟨b, 3, none⟩) := told_is _ (htold 12 (by decide)) rfl
  have hl9 := hl 9 (by decide)
  have hl10 := hl 10 (by decide)
  have hl13 := hl 13 (by decide)
  rw [hl9, hl10, hl13] at hJ
  rw [show (List.range 14).map vs5 = [vs5 0, vs5 1, vs5 2, vs5 3, vs5 4, vs5 5, vs5 6, vs5 7, vs5 8, vs5 9, vs5 10, vs5 11, vs5 12, vs5 13] from rfl]
  simp only [t0, t1, t2, t3, t4, t5, t6, t7, t8, t11, t12, putAll, Act.put, List.setIfInBounds_toArray, List.set_cons_succ, List.set_cons_zero]
  clear t0 t1 t2 t3 t4 t5 t6 t7 t8 t11 t12 htold hl hl9 hl10 hl13
  obtain ⟨v', hO5, hB5, hK5, hF5⟩ := hJ.2.2 rfl
  have hB5' : Blk w5 b 58 [.int .i64 nodes, .int .i64 (la + 1), .map (some mb), v'] := hB5
  have hcl := fits_cell hB5' 1 _ rfl
  have H5 := hide (show Nt w5 b mb v' ⟨nodes, la + 1, L ++ [⟨la + 1, fr, to, u, bs⟩]⟩ ∧ Kept (nX b mb (.slice oo L.length oc)) w w5 ∧ (∀ i, v'.ownBlock = some i → (Value.slice oo L.length oc).ownBlock = some i ∨ w.heap.size ≤ i) from by
    have hn := unhide HN
    have hks : Kept (nX b mb (.slice oo L.length oc)) w w5 := ((unhide HK).mono (by simp [nX])).trans (hK5.mono (fun k hk => by
      rw [List.mem_cons] at hk
      simp only [nX, List.mem_cons]
      rcases hk with h | h
      · exact .inl h
      · exact .inr (.inr h)))
    have hnb : ∀ k, u.ownBlock = some k → k ∉ b :: (Value.slice oo L.length oc).ownBlock.toList := by
      intro k hk hm
      obtain ⟨cs, hc⟩ := (unhide HBU).block k hk
      rw [List.mem_cons, Option.mem_toList] at hm
      rcases hm with rfl | hm
      · have := unhide HB
        unfold Blk at this
        rw [this] at hc
        cases hc
      · obtain ⟨cs', hc'⟩ := owns_block (unhide HO) k hm
        rw [hc'] at hc
        cases hc
    have hmm : mb ∉ b :: (Value.slice oo L.length oc).ownBlock.toList := by
      rw [List.mem_cons, Option.mem_toList]
      rintro (e | e)
      · exact unhide HBM e.symm
      · obtain ⟨cs, hc⟩ := owns_block (unhide HO) mb e
        exact map_not_cells (unhide HM4) hc rfl
    refine ⟨⟨hn.nodes, hB5', (unhide HM4).kept hK5 hmm, ?_, ?_, ?_, ?_, ?_, ?_, ?_, ?_⟩, hks, ?_⟩
    · have e1 : (L ++ [(⟨la + 1, fr, to, u, bs⟩ : Ltr)]).length = (nums L).length + 1 := by rw [nums_len]; simp
      have e2 : nums (L ++ [(⟨la + 1, fr, to, u, bs⟩ : Ltr)]) = nums L ++ [.int .i64 (la + 1)] := by simp [nums]
      show w5.ownsRow 0 2 1 v' (L ++ [(⟨la + 1, fr, to, u, bs⟩ : Ltr)]).length (nums (L ++ [(⟨la + 1, fr, to, u, bs⟩ : Ltr)]))
      rw [e1, e2]
      exact hO5
    · intro l hl
      rcases List.mem_append.1 hl with hl | hl
      · exact (hn.body l hl).kept hks (hn.away (hn.body l hl))
      · simp at hl
        subst hl
        exact (unhide HBU).kept hK5 hnb
    · show 0 ≤ la + 1
      omega
    · show (L ++ [(⟨la + 1, fr, to, u, bs⟩ : Ltr)]).length ≤ 4096
      simp
      omega
    · intro l hl
      show 1 ≤ l.num ∧ l.num ≤ la + 1
      rcases List.mem_append.1 hl with hl | hl
      · have h9 : 1 ≤ l.num ∧ l.num ≤ la := hn.num l hl
        omega
      · simp at hl
        subst hl
        show 1 ≤ la + 1 ∧ la + 1 ≤ la + 1
        omega
    · refine List.pairwise_append.2 ⟨hn.rise, List.pairwise_singleton _ _, fun x hx y hy => ?_⟩
      simp at hy
      subst hy
      have h9 : 1 ≤ x.num ∧ x.num ≤ la := hn.num x hx
      show x.num < la + 1
      omega
    · intro l hl
      rcases List.mem_append.1 hl with hl | hl
      · exact hn.small l hl
      · simp at hl
        subst hl
        have h9 : bs.length = m := unhide HLB
        show bs.length ≤ 512
        omega
    · intro l hl
      rcases List.mem_append.1 hl with hl | hl
      · exact hn.ends l hl
      · simp at hl
        subst hl
        exact ⟨unhide HEF, unhide HET⟩
    · intro i hi
      rcases hF5 i hi with h | h
      · exact .inl h
      · exact .inr (by have := (unhide HK).size; omega))
  clear hJ hO5 hB5 hK5 hF5 hB5'
  go_wp2_with fail
  go_ret2
  exact ⟨v', u, rfl, (unhide H5).1, (unhide H5).2.1, (unhide H5).2.2, fun i hi => Nat.le_trans (unhide HSZ) (unhide HFU i hi)⟩
theorem put_yes (b mb : Nat) (v : Value) (N : Nn) (fr to : Int) (ao : Option Addr) (m c : Nat) (bs : List Int) (w : World) (h : Nt w b mb v N) (hV : Vals w ao m c (u8s bs)) (hnil : ao = none → m = 0 ∧ c = 0) (hby : ∀ x ∈ bs, 0 ≤ x ∧ x < 256) (hA : bs ≠ [] → ∀ h off, ao = some ⟨h, off, none⟩ → h ≠ b) (hm : m ≤ 512) (hfr : 0 ≤ fr ∧ fr < N.nodes) (hto : 0 ≤ to ∧ to < N.nodes) (hla : N.last ≤ 1000000000000) (hroom : N.L.length < 4096) :
    Calls Try.prog 42 #[P0 b, .int .i64 fr, .int .i64 to, .slice ao m c] w fun e w' => ∃ v' u, e = .returned (.tuple #[.int .i64 (N.last + 1), .int .i64 0]) ∧ Nt w' b mb v' ⟨N.nodes, N.last + 1, N.L ++ [⟨N.last + 1, fr, to, u, bs⟩]⟩ ∧ Kept (nX b mb v) w w' ∧ ∀ i, v'.ownBlock = some i → v.ownBlock = some i ∨ w.heap.size ≤ i := by
  refine (put_yesF b mb v N fr to ao m c bs w h hV hnil hby hA hm hfr hto hla hroom).mono ?_
  rintro e w' ⟨v', u, rfl, h1, h2, h3, _⟩
  exact ⟨v', u, rfl, h1, h2, h3⟩
theorem put_full (b mb : Nat) (v : Value) (N : Nn) (fr to : Int) (ao : Option Addr) (m c : Nat) (w : World) (h : Nt w b mb v N) (hroom : 4096 ≤ N.L.length) :
    Calls Try.prog 42 #[P0 b, .int .i64 fr, .int .i64 to, .slice ao m c] w fun e w' => e = .returned (.tuple #[.int .i64 0, .int .i64 5]) ∧ w' = w := by
  obtain ⟨oo, oc, rfl, _, _⟩ := owns_vals h.ord
  have hc3 := h.cells.2.2.2
  have hlt : (4096 : Int) ≤ N.L.length := by omega
  go_enter Try.func42, Try.ntmps42
  go_wp2
  go_ret2
  exact ⟨rfl, rfl⟩

end Go.Proofs.Ytpcggcicpojdoaa
