/-
  Copy, Same.
-/
import Derived.Test.YthbgnpbkdeofcaaSj
import Derived.Lib.Bytes
import Derived.BigQuiet
namespace Go.Proofs.Ythbgnpbkdeofcaa
set_option maxRecDepth 100000
open Go.RowKit

def RowAt (w : World) (v : Value) (l : List Int) : Prop := ∃ ao c, v = .slice ao l.length c ∧ (l ≠ [] → ∃ h off, ao = some ⟨h, off, none⟩ ∧ w.rangeAt h off (u8s l))
theorem RowAt.kept {w w' : World} {v : Value} {l : List Int} (h : RowAt w v l) (hk : Kept [] w w') : RowAt w' v l := by
  obtain ⟨ao, c, e, hl⟩ := h
  refine ⟨ao, c, e, fun hne => ?_⟩
  obtain ⟨b, off, ea, hr⟩ := hl hne
  exact ⟨b, off, ea, fun j u hj => hk.cell (hr j u hj) (by simp)⟩
theorem conv33 {w : World} {v : Value} {l : List Int} (h : RowAt w v l) : (convert 33 9 v).run Try.prog w = .ok (.string (strOfNums l)) w := by
  obtain ⟨ao, c, rfl, hl⟩ := h
  by_cases h0 : l = []
  · subst h0
    cases ao with
    | none => exact run_convert_bytes_nil (P := Try.prog) w 33 5 Try.underlying33 Try.underlying5 0 c 9 Try.underlying9
    | some a =>
      have hl := run_loadCells_list (P := Try.prog) w a [] (fun j v hj => by simp at hj)
      have := run_bytesToString (P := Try.prog) w a 0 c [] (by simpa using hl)
      rw [show ([] : List Int).length = 0 from rfl, run_convert_bytes_string w 33 9 5 _ 0 c Try.underlying33 Try.underlying5 Try.underlying9, this]
      rfl
  · obtain ⟨b, off, rfl, hr⟩ := hl h0
    refine run_convert_bytes_arg (P := Try.prog) w 33 5 Try.underlying33 Try.underlying5 b off l.length c l rfl ?_ 9 Try.underlying9
    intro i hi
    exact hr i (.int .u8 (l.getD i 0)) (by simp [u8s, List.getD, hi])
theorem vals_rowAt {w : World} {ao : Option Addr} {m c : Nat} {bs : List Int} (h : Vals w ao m c (u8s bs)) : RowAt w (.slice ao m c) bs := by
  have hl := h.len
  rw [u8s_len] at hl
  exact ⟨ao, c, by rw [hl], fun hne => h.lies (fun e => hne (by have := congrArg List.length e; rw [u8s_len] at this; exact List.length_eq_zero_iff.1 this))⟩
theorem Bod.row {W : World} {v : Value} {bs : List Int} (h : Bod W v bs) : RowAt W v bs := by
  obtain ⟨ao, c, rfl, hV, _⟩ := h.sl
  exact vals_rowAt hV
theorem strNums_inj : ∀ (l k : List Int), (∀ x ∈ l, 0 ≤ x ∧ x < 256) → (∀ x ∈ k, 0 ≤ x ∧ x < 256) → strOfNums l = strOfNums k → l = k := by
  intro l k hl hk h
  have h2 := congrArg (fun b : ByteArray => b.data.toList) h
  simp only [strOfNums_data] at h2
  clear h
  induction l generalizing k with
  | nil =>
    cases k with
    | nil => rfl
    | cons y k => simp at h2
  | cons x l ih =>
    cases k with
    | nil => simp at h2
    | cons y k =>
      simp only [List.map_cons, List.cons.injEq] at h2
      have hx := hl x (List.mem_cons_self ..)
      have hy := hk y (List.mem_cons_self ..)
      have h3 := congrArg UInt8.toNat h2.1
      rw [UInt8.toNat_ofNat', UInt8.toNat_ofNat', Nat.mod_eq_of_lt (by omega), Nat.mod_eq_of_lt (by omega)] at h3
      rw [ih k (fun z hz => hl z (List.mem_cons_of_mem _ hz)) (fun z hz => hk z (List.mem_cons_of_mem _ hz)) h2.2, show x = y by omega]
theorem str_eq {l k : List Int} (hl : ∀ x ∈ l, 0 ≤ x ∧ x < 256) (hk : ∀ x ∈ k, 0 ≤ x ∧ x < 256) : ((strOfNums l).toList == (strOfNums k).toList) = decide (l = k) := by
  by_cases h : l = k
  · subst h
    simp
  · rw [decide_eq_false h, beq_eq_false_iff_ne, Lib.strOfNums_toList, Lib.strOfNums_toList]
    intro e
    apply h
    apply strNums_inj l k hl hk
    unfold strOfNums
    exact congrArg (fun x : List UInt8 => (⟨x.toArray⟩ : ByteArray)) e
theorem equal42 (v1 v2 : Value) (l k : List Int) (w : World) (h1 : RowAt w v1 l) (h2 : RowAt w v2 k) (hl : ∀ x ∈ l, 0 ≤ x ∧ x < 256) (hk : ∀ x ∈ k, 0 ≤ x ∧ x < 256) : Calls Try.prog 42 #[v1, v2] w fun e w' => e = .returned (.bool (decide (l = k))) ∧ w' = w := by
  have hc1 := conv33 h1
  have hc2 := conv33 h2
  have hs := str_eq hl hk
  obtain ⟨a1, c1, rfl, _⟩ := h1
  obtain ⟨a2, c2, rfl, _⟩ := h2
  clear hl hk
  go_enter Try.func42, Try.ntmps42
  go_wp2
  go_ret
  exact ⟨by rw [← hs]; rfl, rfl⟩
section
variable {ops : Array Oper} {rest : List Oper} {op : Oper} {a : Act} {w : World} {Q : Exit → Act → World → Prop}
theorem wpAppW {T e by8 : Nat} {z : Value} (hT : Try.prog.underlying T = some (.slice e)) (hI : (Try.prog.info? e).map (fun i => (i.zero, i.size, i.bytes)) = some (some z, 1, by8)) (hz : z.cells.size = 1) (h8 : by8 ≤ 64) (hgd : op.guard = none) (s x : Operand) (ho : op.op = .call { callee := .builtin .append, args := #[s, x], argTypes := #[T, T] })
    (B : Nat) (v : Value) (xs ys : List Value) (hs : a.eval s = v) (ao : Option Addr) (m c : Nat) (hx : a.eval x = .slice ao m c) (hnil : ao = none → m = 0 ∧ c = 0) (hys : Vals w ao m c ys) (hone : ∀ u ∈ ys, u.oneCell' = true) (hown : w.ownsRow B e 1 v xs.length xs) (hk : xs.length + m ≤ 1000000) (hB : B ≤ w.heap.size)
    (h : ∀ v' w', w'.ownsRow B e 1 v' (xs ++ ys).length (xs ++ ys) → w.grownBy w' v.ownBlock → wpList Try.prog ops Q rest (a.put op.dst v') w') : wpList Try.prog ops Q (op :: rest) a w := by
  obtain ⟨i0, hi, hz0, hz1, hz2⟩ := info_parts hI
  have hl := hys.len
  have hb8 : (xs.length + m) * by8 ≤ 140737488355328 := by
    have : (xs.length + m) * by8 ≤ 1000000 * 64 := Nat.mul_le_mul hk h8
    omega
  cases ao with
  | none =>
    obtain ⟨rfl, rfl⟩ := hnil rfl
    obtain rfl : ys = [] := List.length_eq_zero_iff.1 hl
    exact wpList_append_own_none hgd s x T ho B e i0 1 hT hi v _ _ hs hown hx (h v w (by rw [List.append_nil]; exact hown) ⟨rfl, rfl, rfl, Nat.le_refl _, fun _ _ _ => rfl⟩)
  | some ad =>
    refine wpList_append_own w hgd s x T ho B e i0 z 1 by8 hT hi hz0 hz1 hz2 hz (by decide) v xs.length xs hs hown ad m c ys hx (by omega) ?_ hone (by unfold maxLen; omega) hb8 hB ?_
    · intro j u hj
      obtain ⟨b, off, eq, hr⟩ := hys.lies (by intro e; subst e; simp at hj)
      cases eq
      rw [Addr.add_mid]
      exact hr j u hj
    · intro v' w' g1 g2 _
      rw [← hl, ← List.length_append] at g1
      exact h v' w' g1 g2
end
theorem OwnO.vals {W : World} {ao : Option Addr} {c : Nat} {xs : List Value} (h : OwnO W (.slice ao xs.length c) xs) : Vals W ao xs.length c xs := by
  rcases h with ⟨h1, h2⟩ | ⟨g, off, cap, cur, h1, h2, h3, _, _, h6⟩
  · injection h1 with h1 h1a h1b
    subst h1 h1b h2
    exact ⟨rfl, Nat.le_refl _, fun h => absurd rfl h⟩
  · cases h1
    exact ⟨rfl, h3, fun _ => ⟨g, off, rfl, fun j u hj => by rw [cell_of_block h2]; exact h6 j u hj⟩⟩
theorem clone40 (v : Value) (ws : List Value) (w : World) (hO : OwnO w v ws) (hone : ∀ u ∈ ws, u.oneCell' = true) (hm : ws.length ≤ 1000) :
    Calls Try.prog 40 #[v] w fun e w' => ∃ v', e = .returned v' ∧ w'.ownsRow w.heap.size 33 1 v' ws.length ws ∧ Kept [] w w' := by
  obtain ⟨ao, c, rfl, hcc, hno⟩ := hO.sl
  have hV := hO.vals
  cases ao with
  | none =>
    have hc := hno rfl
    subst hc
    have hn : ws.length = 0 := by omega
    obtain rfl : ws = [] := List.length_eq_zero_iff.1 hn
    have hq : ∀ W, Sem.run Try.prog (binOp BinOp.eql 30 (.slice none 0 0) (.slice none 0 0)) W = .ok (.bool true) W := fun W => by kernel_rfl
    simp only [List.length_nil]
    go_enter Try.func40, Try.ntmps40
    go_wp2
    go_ret
    exact ⟨_, rfl, World.ownsRow_nil _ _ _ _, Kept.refl _ _⟩
  | some ad =>
    have HV := hide hV
    have HONE := hide hone
    have KW : Hid (Kept [] w (w.alloc (.cells #[] 33))) := (Kept.refl _ _).alloc _
    have HO : Hid ((w.alloc (.cells #[] 33)).ownsRow w.heap.size 33 1 (.slice (some ⟨w.heap.size, 0, none⟩) 0 0) ([] : List Value).length []) := ⟨rfl, .inr ⟨w.heap.size, 0, #[], rfl, Nat.le_refl _, heap_alloc_new w _, Nat.le_refl _, by decide, rfl, rfl⟩⟩
    have hq : ∀ n W, Sem.run Try.prog (binOp BinOp.eql 30 (.slice (some ad) n c) (.slice none 0 0)) W = .ok (.bool false) W := fun n W => by kernel_rfl
    clear hV hO hone hcc hno
    go_enter Try.func40, Try.ntmps40
    go_wp2_with (
      first
      | (at_builtin; refine wpAppW (T := 30) (e := 33) (z := .slice none 0 0) (by8 := 24) Try.sl30 Try.info33 rfl (by decide) (by rfl) (.tmp 5) (.tmp 6) (by rfl) w.heap.size _ [] ws (by rfl) (some ad) ws.length c (by rfl) (fun h => by cases h) ((unhide HV).kept (unhide KW) (fun _ _ _ => by simp)) (unhide HONE) (unhide HO) (by simp; omega) (by simp) ?_
         intro v4 W4 hO4 g4))
    go_ret
    refine ⟨_, rfl, ?_, kept_grown (unhide KW) g4 (fun k h => ?_)⟩
    · rw [List.nil_append] at hO4
      exact hO4
    · simp [Value.ownBlock] at h
      omega
theorem row66 : Row 66 7 := ⟨_, Try.underlying66, rfl, by kernel_rfl⟩
def Ps.S (P : Ps) : List Value := [.int .i64 P.me, .int .i64 P.oth, .int .i64 P.view, .int .i64 P.known, .int .i64 P.told, .int .i64 P.got, .bool P.owes]
theorem build68 (w : World) (P : Ps) (ao : Option Addr) (m c : Nat) : (Instr.build 68 #[(0, aggV P.S), (1, .slice ao m c)]).run Try.prog w = .ok (aggV (P.C (.slice ao m c))) w := by kernel_rfl
theorem S_range {W : World} {b : Nat} {P : Ps} {v : Value} (h : Blk W b 68 (P.C v)) : W.rangeAt b 0 P.S := h.rangeIn (o := 0) P.S (fun j hj => by
  have e : P.C v = P.S ++ [v] := rfl
  rw [Nat.zero_add, e, List.getElem?_append_left hj])
section
variable {o : Oper} {a : Act} {w : World} {K : Act → World → Prop} {Q : Exit → Act → World → Prop}
theorem o_bld68 (x y : Operand) (ho : o.op = .build 68 #[(0, x), (1, y)]) (P : Ps) (v : Value) (hv : ∃ ao m c, v = .slice ao m c) (hx : a.eval x = aggV P.S) (hy : a.eval y = v) (h : K (a.put o.dst (aggV (P.C v))) w) : o.wp Try.prog a w K Q := by
  obtain ⟨ao, m, c, rfl⟩ := hv
  unfold Oper.wp execOp
  simp only [ho, List.map_toArray, List.map_cons, List.map_nil, hx, hy, Sem.run_bind, build68, Result.andThen_ok]
  exact h
theorem o_boxA {T : Nat} (x : Operand) (ho : o.op = .box T x) (vs : List Value) (hx : a.eval x = aggV vs) (h : K (a.put o.dst (P0 w.heap.size)) (w.alloc (.cells vs.toArray T))) : o.wp Try.prog a w K Q := by
  unfold Oper.wp execOp
  simp only [ho, hx, Sem.run_bind, run_boxA, Result.andThen_ok]
  exact h
theorem o_eqlA (T r : Nat) (hG : Try.prog.eqGuardType Try.prog.depth T = false) (x y : Operand) (ho : o.op = .binOp .eql T x y r) (vs us : List Value) (hx : a.eval x = aggV vs) (hy : a.eval y = aggV us) (c : Bool)
    (he : (Op.equal T (aggV vs) (aggV us)).run Try.prog w = .ok c w) (h : K (a.put o.dst (.bool c)) w) : o.wp Try.prog a w K Q := by
  unfold Oper.wp execOp
  simp only [aggV] at he hx hy
  have hg : (eqGuard .eql T x y (.agg vs.toArray) (.agg us.toArray)).run Try.prog w = .ok () w := by simp [eqGuard, Sem.run_bind, hG]
  have hb : (binOp BinOp.eql T (.agg vs.toArray) (.agg us.toArray)).run Try.prog w = .ok (.bool c) w := by simp only [binOp, Sem.run_bind, he, Result.andThen_ok, Sem.run_pure]
  simp only [ho, hx, hy, Sem.run_bind, hg, hb, Result.andThen_ok]
  exact h
end
@[reducible] def S27 (V : World) (ws : List Value) (P : Ps) (d : Nat → Bool) (vs : Nat → Value) (W : World) : Prop :=
  Kept [] V W ∧ (d 8 = true → W.ownsRow V.heap.size 33 1 (vs 8) ws.length ws) ∧ (d 9 = true → vs 9 = aggV (P.C (vs 8)) ∧ d 8 = true) ∧ (d 10 = true → ∃ b', vs 10 = P0 b' ∧ V.heap.size ≤ b' ∧ Blk W b' 68 (P.C (vs 8))) ∧ (d 11 = true → vs 11 = vs 10)
theorem S27.loc {V : World} {ws : List Value} {P : Ps} : ∀ d d' vs vs' W, (∀ i ∈ [8, 9, 10, 11], d i = d' i ∧ vs i = vs' i) → S27 V ws P d vs W → S27 V ws P d' vs' W := by
  intro d d' vs vs' W H h
  have e0 := H 8 (by simp)
  have e1 := H 9 (by simp)
  have e2 := H 10 (by simp)
  have e3 := H 11 (by simp)
  unfold S27 at h ⊢
  rw [← e0.1, ← e0.2, ← e1.1, ← e1.2, ← e2.1, ← e2.2, ← e3.1, ← e3.2]
  exact h
set_option maxHeartbeats 2000000 in
theorem copy27 (b : Nat) (v : Value) (ws : List Value) (P : Ps) (w : World) (h : Sx w b v ws P) : Calls Try.prog 27 #[P0 b] w fun e w' => ∃ b' v', e = .returned (P0 b') ∧ Sx w' b' v' ws P ∧ w.heap.size ≤ b' ∧ (∀ k, v'.ownBlock = some k → w.heap.size ≤ k) ∧ Kept [] w w' := by
  have P33 := hide (none33 b v ws P w h)
  have HL : Hid (ws.length ≤ 1000) := by have h1 := h.len; have h2 := h.ok.many; exact (by omega : ws.length ≤ 1000)
  have HONE : Hid (∀ u ∈ ws, u.oneCell' = true) := fun u hu => by obtain ⟨bs, hb⟩ := h.bod hu; exact hb.one
  have HS := hide h
  clear h
  go_enter Try.func27, Try.ntmps27
  go_wp2_with (
    first
    | (go_at_call 33
       refine (unhide P33).mono ?_
       rintro e w1 ⟨rfl, q1, hq⟩
       have HK : Hid (Kept [] w w1) := by rw [hq]; exact kept_drewN _ _ _
       replace HS := hide ((unhide HS).kept0 (unhide HK))
       clear hq P33))
  have HH := hide (unhide HS).head
  have HO := hide (unhide HS).row
  refine wp_region_any mixed (wpAny_gx 12 rfl (by kernel_rfl) [some (P0 b), some (P0 b), some (.pointer (some ⟨b, 0, none⟩)), some (aggV P.S), some (P0 b), some (P0 b), some (.pointer (some ⟨b, 7, none⟩)), some (v), none, none, none, none] rfl (by kernel_rfl) (fun l vs W => (S27 w1 ws P) (fun i => l.getD i false) vs W) (⟨⟨rfl, rfl, rfl, Nat.le_refl _, fun _ _ _ => rfl⟩, (fun h => by cases h), (fun h => by cases h), (fun h => by cases h), (fun h => by cases h)⟩) ?_ ?_)
  · intro ix o' hi ho a' w2 l vs hls hlf hJ hout hin hdep hnot
    match ix, ho with
    | 0, ho =>
      obtain rfl := Option.some.inj ho
      have e0 := hout 0 (by kernel_rfl)
      replace e0 : a'.eval (.tmp 0) = _ := e0.trans rfl
      exact wp_move (.tmp 0) rfl _ e0 ⟨_, rfl, told_of rfl, keepG (St := (S27 w1 ws P)) [8, 9, 10, 11] S27.loc (by omega) (by decide) hJ⟩
    | 1, ho =>
      obtain rfl := Option.some.inj ho
      have e0 : a'.eval (.tmp 5) = P0 b := by have h9 := hin 0 5 (by kernel_rfl) (by kernel_rfl); exact h9.1.trans (told_is _ h9.2 rfl)
      exact o_nil (.tmp 5) rfl _ e0 ⟨_, rfl, told_of rfl, keepG (St := (S27 w1 ws P)) [8, 9, 10, 11] S27.loc (by omega) (by decide) hJ⟩
    | 2, ho =>
      obtain rfl := Option.some.inj ho
      have e0 : a'.eval (.tmp 6) = P0 b := by have h9 := hin 1 6 (by kernel_rfl) (by kernel_rfl); exact h9.1.trans (told_is _ h9.2 rfl)
      exact o_fld68_0 (.tmp 6) rfl _ e0 ⟨_, rfl, told_of rfl, keepG (St := (S27 w1 ws P)) [8, 9, 10, 11] S27.loc (by omega) (by decide) hJ⟩
    | 3, ho =>
      obtain rfl := Option.some.inj ho
      have e0 : a'.eval (.tmp 7) = .pointer (some ⟨b, 0, none⟩) := by have h9 := hin 2 7 (by kernel_rfl) (by kernel_rfl); exact h9.1.trans (told_is _ h9.2 rfl)
      exact wp_loadA row66 (.tmp 7) rfl b 0 e0 P.S rfl (S_range ((unhide HH).kept hJ.1 (by simp))) ⟨_, rfl, told_of rfl, keepG (St := (S27 w1 ws P)) [8, 9, 10, 11] S27.loc (by omega) (by decide) hJ⟩
    | 4, ho =>
      obtain rfl := Option.some.inj ho
      have e0 := hout 0 (by kernel_rfl)
      replace e0 : a'.eval (.tmp 0) = _ := e0.trans rfl
      exact wp_move (.tmp 0) rfl _ e0 ⟨_, rfl, told_of rfl, keepG (St := (S27 w1 ws P)) [8, 9, 10, 11] S27.loc (by omega) (by decide) hJ⟩
    | 5, ho =>
      obtain rfl := Option.some.inj ho
      have e0 : a'.eval (.tmp 9) = P0 b := by have h9 := hin 4 9 (by kernel_rfl) (by kernel_rfl); exact h9.1.trans (told_is _ h9.2 rfl)
      exact o_nil (.tmp 9) rfl _ e0 ⟨_, rfl, told_of rfl, keepG (St := (S27 w1 ws P)) [8, 9, 10, 11] S27.loc (by omega) (by decide) hJ⟩
    | 6, ho =>
      obtain rfl := Option.some.inj ho
      have e0 : a'.eval (.tmp 10) = P0 b := by have h9 := hin 5 10 (by kernel_rfl) (by kernel_rfl); exact h9.1.trans (told_is _ h9.2 rfl)
      exact o_fld68_1 (.tmp 10) rfl _ e0 ⟨_, rfl, told_of rfl, keepG (St := (S27 w1 ws P)) [8, 9, 10, 11] S27.loc (by omega) (by decide) hJ⟩
    | 7, ho =>
      obtain rfl := Option.some.inj ho
      have e0 : a'.eval (.tmp 11) = .pointer (some ⟨b, 7, none⟩) := by have h9 := hin 6 11 (by kernel_rfl) (by kernel_rfl); exact h9.1.trans (told_is _ h9.2 rfl)
      exact o_load30 (.tmp 11) rfl _ _ e0 (fits_cell ((unhide HH).kept hJ.1 (by simp)) 7 _ rfl) ⟨_, rfl, told_of rfl, keepG (St := (S27 w1 ws P)) [8, 9, 10, 11] S27.loc (by omega) (by decide) hJ⟩
    | 8, ho =>
      obtain rfl := Option.some.inj ho
      have e0 : a'.eval (.tmp 12) = v := by have h9 := hin 7 12 (by kernel_rfl) (by kernel_rfl); exact h9.1.trans (told_is _ h9.2 rfl)
      refine wp_callF 40 _ _ rfl #[v] (by simp [e0]) (cf40 _ _) ((clone40 v ws _ ((unhide HO).kept hJ.1 (by simp)) (unhide HONE) (unhide HL)).mono ?_)
      rintro e w3 ⟨v', rfl, hO3, hk3⟩
      exact ⟨_, rfl, _, rfl, told_no rfl, nextG (St := (S27 w1 ws P)) (by omega) ⟨hJ.1.trans hk3, fun _ => owns_base hO3 hJ.1.size, fun h9 => (by have h9 : l.getD 9 false = true := h9; rw [hnot 9 (by kernel_rfl)] at h9; cases h9), fun h10 => (by have h9 : l.getD 10 false = true := h10; rw [hnot 10 (by kernel_rfl)] at h9; cases h9), fun h11 => (by have h9 : l.getD 11 false = true := h11; rw [hnot 11 (by kernel_rfl)] at h9; cases h9)⟩⟩
    | 9, ho =>
      obtain rfl := Option.some.inj ho
      have e0 : a'.eval (.tmp 8) = aggV P.S := by have h9 := hin 3 8 (by kernel_rfl) (by kernel_rfl); exact h9.1.trans (told_is _ h9.2 rfl)
      have e1 : a'.eval (.tmp 13) = vs 8 := (hin 8 13 (by kernel_rfl) (by kernel_rfl)).1
      have hO := hJ.2.1 (hdep 8 (by kernel_rfl))
      obtain ⟨ao9, c9, e9⟩ := owns_slN hO
      exact o_bld68 (.tmp 8) (.tmp 13) rfl P (vs 8) ⟨ao9, _, c9, e9⟩ e0 e1 ⟨_, rfl, told_no rfl, nextG (St := (S27 w1 ws P)) (by omega) ⟨hJ.1, fun _ => hO, fun _ => ⟨rfl, hdep 8 (by kernel_rfl)⟩, fun h10 => (by have h9 : l.getD 10 false = true := h10; rw [hnot 10 (by kernel_rfl)] at h9; cases h9), fun h11 => (by have h9 : l.getD 11 false = true := h11; rw [hnot 11 (by kernel_rfl)] at h9; cases h9)⟩⟩
    | 10, ho =>
      obtain rfl := Option.some.inj ho
      have e0 : a'.eval (.tmp 14) = vs 9 := (hin 9 14 (by kernel_rfl) (by kernel_rfl)).1
      have h14 := hJ.2.2.1 (hdep 9 (by kernel_rfl))
      have hO := hJ.2.1 h14.2
      exact o_boxA (.tmp 14) rfl (P.C (vs 8)) (e0.trans h14.1) ⟨_, rfl, told_no rfl, nextG (St := (S27 w1 ws P)) (by omega) ⟨hJ.1.alloc _, fun _ => owns_kept hO ((Kept.refl [] _).alloc _), fun _ => h14, fun _ => ⟨w2.heap.size, rfl, hJ.1.size, Blk.new w2 68 _⟩, fun h11 => (by have h9 : l.getD 11 false = true := h11; rw [hnot 11 (by kernel_rfl)] at h9; cases h9)⟩⟩
    | 11, ho =>
      obtain rfl := Option.some.inj ho
      have e0 : a'.eval (.tmp 15) = vs 10 := (hin 10 15 (by kernel_rfl) (by kernel_rfl)).1
      exact wp_assignV (.tmp 15) rfl _ e0 ⟨_, rfl, told_no rfl, nextG (St := (S27 w1 ws P)) (by omega) ⟨hJ.1, hJ.2.1, hJ.2.2.1, hJ.2.2.2.1, fun _ => rfl⟩⟩
  intro l vs w9 hl hJ htold
  have t0 : vs 0 = P0 b := told_is _ (htold 0 (by decide)) rfl
  have t1 : vs 1 = P0 b := told_is _ (htold 1 (by decide)) rfl
  have t2 : vs 2 = .pointer (some ⟨b, 0, none⟩) := told_is _ (htold 2 (by decide)) rfl
  have t3 : vs 3 = aggV P.S := told_is _ (htold 3 (by decide)) rfl
  have t4 : vs 4 = P0 b := told_is _ (htold 4 (by decide)) rfl
  have t5 : vs 5 = P0 b := told_is _ (htold 5 (by decide)) rfl
  have t6 : vs 6 = .pointer (some ⟨b, 7, none⟩) := told_is _ (htold 6 (by decide)) rfl
  have t7 : vs 7 = v := told_is _ (htold 7 (by decide)) rfl
  rw [show (List.range 12).map vs = [vs 0, vs 1, vs 2, vs 3, vs 4, vs 5, vs 6, vs 7, vs 8, vs 9, vs 10, vs 11] from rfl]
  simp only [t0, t1, t2, t3, t4, t5, t6, t7, putAll, Act.put, List.setIfInBounds_toArray, List.set_cons_succ, List.set_cons_zero]
  clear t0 t1 t2 t3 t4 t5 t6 t7 htold
  obtain ⟨hk, h8, _, h10, h11⟩ := hJ
  have hO := h8 (hl 8 (by decide))
  obtain ⟨b', hb', hge, hB⟩ := h10 (hl 10 (by decide))
  have e11 := (h11 (hl 11 (by decide))).trans hb'
  rw [e11]
  have HR : Hid (Sx w9 b' (vs 8) ws P) := ⟨(unhide HS).ok, hB, own_O (base := w1.heap.size) hO, (unhide HS).len, fun i u bs hu hs => ((unhide HS).body i u bs hu hs).kept hk (by simp)⟩
  have HB' : Hid (w.heap.size ≤ b' ∧ ∀ k, (vs 8).ownBlock = some k → w.heap.size ≤ k) := ⟨by have := (unhide HK).size; omega, fun k e => by have h9 := (hO.lt k e).1; have := (unhide HK).size; omega⟩
  replace HK := hide ((unhide HK).trans hk)
  clear hk h8 h10 h11 hl hO hb' hge hB e11
  go_wp2_with fail
  go_ret
  exact ⟨b', rfl, _, unhide HR, (unhide HB').1, (unhide HB').2, unhide HK⟩

end Go.Proofs.Ythbgnpbkdeofcaa
