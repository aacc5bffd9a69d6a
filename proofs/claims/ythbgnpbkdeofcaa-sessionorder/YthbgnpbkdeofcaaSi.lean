/-
  What is forgotten; which datagrams are nothing.
-/
import Derived.Test.YthbgnpbkdeofcaaSh
namespace Go.Proofs.Ythbgnpbkdeofcaa
set_option maxRecDepth 100000
open Go.RowKit

section
variable {o : Oper} {a : Act} {w : World} {K : Act → World → Prop} {Q : Exit → Act → World → Prop}
theorem o_neqT2 (x y : Operand) (ho : o.op = .binOp .neq 2 x y 2) (m n : Int) (r : Bool) (hr : decide (m = n) = r) (hx : a.eval x = .int .i64 m) (hy : a.eval y = .int .i64 n) (h : K (a.put o.dst (.bool (!r))) w) : o.wp Try.prog a w K Q := by
  have hb : (m != n) = !r := by rw [← hr]; rfl
  unfold Oper.wp execOp
  simp only [ho, hx, hy]
  simp [go_sem, hb]
  exact h
theorem o_neqT3 (x y : Operand) (ho : o.op = .binOp .neq 3 x y 3) (m n : Int) (r : Bool) (hr : decide (m = n) = r) (hx : a.eval x = .int .i64 m) (hy : a.eval y = .int .i64 n) (h : K (a.put o.dst (.bool (!r))) w) : o.wp Try.prog a w K Q := by
  have hb : (m != n) = !r := by rw [← hr]; rfl
  unfold Oper.wp execOp
  simp only [ho, hx, hy]
  simp [go_sem, hb]
  exact h
theorem o_gtrT2 (x y : Operand) (ho : o.op = .binOp .gtr 2 x y 2) (m n : Int) (r : Bool) (hr : decide (n < m) = r) (hx : a.eval x = .int .i64 m) (hy : a.eval y = .int .i64 n) (h : K (a.put o.dst (.bool r)) w) : o.wp Try.prog a w K Q := by
  unfold Oper.wp execOp
  simp only [ho, hx, hy]
  simp [go_sem, hr]
  exact h
end
def Ps.forget (P : Ps) (a : Nat) : Ps := { P with known := max P.known a }
theorem forget_ok {P : Ps} (h : P.Ok) {a : Nat} (ha : a ≤ P.sent.length) : (P.forget a).Ok := ⟨h.ne, by have := h.known; show max P.known a ≤ P.sent.length; omega, h.told, h.got, h.many, h.small, h.byte⟩
def Ps.F (P : Ps) (v' : Value) (a : Nat) (v : Value) (x y : Bool) : List Value := [.int .i64 P.me, .int .i64 P.oth, .int .i64 P.view, .int .i64 (if y then (a : Int) else P.known), .int .i64 P.told, .int .i64 P.got, .bool P.owes, if x then v' else v]
@[reducible] def S39 (V : World) (b : Nat) (v : Value) (P : Ps) (v' : Value) (a : Nat) (d : Nat → Bool) (_ : Nat → Value) (W : World) : Prop :=
  Kept [b] V W ∧ Blk W b 68 (P.F v' a v (d 17) (d 21))
theorem S39.loc {V : World} {b : Nat} {v : Value} {P : Ps} {v' : Value} {a : Nat} : ∀ d d' vs vs' W, (∀ i ∈ [17, 21], d i = d' i ∧ vs i = vs' i) → S39 V b v P v' a d vs W → S39 V b v P v' a d' vs' W := by
  intro d d' vs vs' W H h
  have e0 := H 17 (by simp)
  have e1 := H 21 (by simp)
  unfold S39 at h ⊢
  rw [← e0.1, ← e1.1]
  exact h
theorem forget_sx {V W : World} {b : Nat} {vo : Option Addr} {vc a k : Nat} {ws : List Value} {P : Ps} (h : Sx V b (.slice vo ws.length vc) ws P) (ha : a ≤ P.sent.length) (hk : a = P.known + k) (h1 : Blk W b 68 (P.F (restV vo ws.length vc k) a (.slice vo ws.length vc) true true)) (h2 : Kept [b] V W) : SR V b (.slice vo ws.length vc) ws W (restV vo ws.length vc k) (ws.drop k) (P.forget a) := by
  have hl := h.len
  have hb : ∀ j, (restV vo ws.length vc k).ownBlock = some j → j ∉ [b] := fun j e hm => h.hv j (by rw [rest_own] at e; exact e) (by simpa using hm)
  have hmx : max P.known a = a := by omega
  refine ⟨⟨forget_ok h.ok ha, ?_, (h.row.rest k (by omega)).kept h2 hb, ?_, fun i u bs hu hs => ?_⟩, h2.mono (by simp), fun j e => .inl (by rw [rest_own] at e; exact e), fun u hu j e => .inl ⟨u, List.mem_of_mem_drop hu, e⟩⟩
  · have e : (P.forget a).C (restV vo ws.length vc k) = P.F (restV vo ws.length vc k) a (.slice vo ws.length vc) true true := by simp [Ps.C, Ps.F, Ps.forget, hmx]
    rw [e]
    exact h1
  · show max P.known a + (ws.drop k).length = P.sent.length
    rw [List.length_drop]; omega
  · rw [List.getElem?_drop] at hu
    have hs' : P.sent[P.known + (k + i)]? = some bs := by
      have e : P.known + (k + i) = max P.known a + i := by omega
      rw [e]; exact hs
    have hB := h.body (k + i) u bs hu hs'
    exact hB.kept h2 (fun j e hm => h.away hB j e (by simp at hm; simp [hm]))
set_option maxHeartbeats 2000000 in
theorem forget39 (b : Nat) (v : Value) (ws : List Value) (P : Ps) (a : Nat) (w : World) (h : Sx w b v ws P) (ha : a ≤ P.sent.length) : Calls Try.prog 39 #[P0 b, .int .i64 a] w fun e w' => e = .returned (.tuple #[]) ∧ ∃ v' ws', SR w b v ws w' v' ws' (P.forget a) ∧ ∀ u ∈ ws', u ∈ ws := by
  obtain ⟨vo, vc, rfl, hvc, hvn⟩ := h.sl
  have hc3 := h.cells.2.2.2.1
  by_cases hlt : P.known < a
  · obtain ⟨k, hk⟩ : ∃ k, a = P.known + k := ⟨a - P.known, by omega⟩
    have hltI : (P.known : Int) < (a : Int) := by omega
    have HKE : Hid ((a : Int) - (P.known : Int) = (k : Nat)) := (by omega : (a : Int) - (P.known : Int) = (k : Nat))
    have HLN : Hid (k ≤ ws.length ∧ a ≤ 1000 ∧ a = P.known + k ∧ a ≤ P.sent.length) := by have := h.len; have := h.ok.many; exact ⟨by omega, by omega, hk, ha⟩
    have HS := hide h
    have HVC := hide hvc
    have HVN := hide hvn
    clear h hvc hvn ha hk
    go_enter Try.func39, Try.ntmps39
    go_wp2_with fail
    refine wp_region_any mixed (wpAny_gx 22 rfl (by kernel_rfl) [some (P0 b), some (P0 b), some (P0 b), some (P0 b), some (.pointer (some ⟨b, 7, none⟩)), some (.slice vo ws.length vc), some (.int .i64 a), some (P0 b), some (P0 b), some (.pointer (some ⟨b, 0, none⟩)), some (.pointer (some ⟨b, 3, none⟩)), some (.int .i64 P.known), some (.int .i64 (k : Nat)), some (restV vo ws.length vc k), some (.int .i64 a), some (P0 b), some (.pointer (some ⟨b, 7, none⟩)), none, some (P0 b), some (.pointer (some ⟨b, 0, none⟩)), some (.pointer (some ⟨b, 3, none⟩)), none] rfl (by kernel_rfl) (fun l vs W => (S39 w b (.slice vo ws.length vc) P (restV vo ws.length vc k) a) (fun i => l.getD i false) vs W) (⟨⟨rfl, rfl, rfl, Nat.le_refl _, fun _ _ _ => rfl⟩, (unhide HS).head⟩) ?_ ?_)
    · intro ix o' hi ho a' w2 l vs hls hlf hJ hout hin hdep hnot
      match ix, ho with
      | 0, ho =>
        obtain rfl := Option.some.inj ho
        have e0 := hout 0 (by kernel_rfl)
        replace e0 : a'.eval (.tmp 0) = _ := e0.trans rfl
        exact wp_move (.tmp 0) rfl _ e0 ⟨_, rfl, told_of rfl, keepG (St := (S39 w b (.slice vo ws.length vc) P (restV vo ws.length vc k) a)) [17, 21] S39.loc (by omega) (by decide) hJ⟩
      | 1, ho =>
        obtain rfl := Option.some.inj ho
        have e0 := hout 0 (by kernel_rfl)
        replace e0 : a'.eval (.tmp 0) = _ := e0.trans rfl
        exact wp_move (.tmp 0) rfl _ e0 ⟨_, rfl, told_of rfl, keepG (St := (S39 w b (.slice vo ws.length vc) P (restV vo ws.length vc k) a)) [17, 21] S39.loc (by omega) (by decide) hJ⟩
      | 2, ho =>
        obtain rfl := Option.some.inj ho
        have e0 := hout 0 (by kernel_rfl)
        replace e0 : a'.eval (.tmp 0) = _ := e0.trans rfl
        exact wp_move (.tmp 0) rfl _ e0 ⟨_, rfl, told_of rfl, keepG (St := (S39 w b (.slice vo ws.length vc) P (restV vo ws.length vc k) a)) [17, 21] S39.loc (by omega) (by decide) hJ⟩
      | 3, ho =>
        obtain rfl := Option.some.inj ho
        have e0 : a'.eval (.tmp 13) = P0 b := by have h9 := hin 2 13 (by kernel_rfl) (by kernel_rfl); exact h9.1.trans (told_is _ h9.2 rfl)
        exact o_nil (.tmp 13) rfl _ e0 ⟨_, rfl, told_of rfl, keepG (St := (S39 w b (.slice vo ws.length vc) P (restV vo ws.length vc k) a)) [17, 21] S39.loc (by omega) (by decide) hJ⟩
      | 4, ho =>
        obtain rfl := Option.some.inj ho
        have e0 : a'.eval (.tmp 14) = P0 b := by have h9 := hin 3 14 (by kernel_rfl) (by kernel_rfl); exact h9.1.trans (told_is _ h9.2 rfl)
        exact o_fld68_1 (.tmp 14) rfl _ e0 ⟨_, rfl, told_of rfl, keepG (St := (S39 w b (.slice vo ws.length vc) P (restV vo ws.length vc k) a)) [17, 21] S39.loc (by omega) (by decide) hJ⟩
      | 5, ho =>
        obtain rfl := Option.some.inj ho
        have e0 : a'.eval (.tmp 15) = .pointer (some ⟨b, 7, none⟩) := by have h9 := hin 4 15 (by kernel_rfl) (by kernel_rfl); exact h9.1.trans (told_is _ h9.2 rfl)
        have hJ0 := hJ.2
        simp only [hnot 17 (by kernel_rfl), hnot 21 (by kernel_rfl)] at hJ0
        exact o_load30 (.tmp 15) rfl _ _ e0 (fits_cell hJ0 7 _ rfl) ⟨_, rfl, told_of rfl, keepG (St := (S39 w b (.slice vo ws.length vc) P (restV vo ws.length vc k) a)) [17, 21] S39.loc (by omega) (by decide) hJ⟩
      | 6, ho =>
        obtain rfl := Option.some.inj ho
        have e0 := hout 1 (by kernel_rfl)
        replace e0 : a'.eval (.tmp 1) = _ := e0.trans rfl
        exact wp_move (.tmp 1) rfl _ e0 ⟨_, rfl, told_of rfl, keepG (St := (S39 w b (.slice vo ws.length vc) P (restV vo ws.length vc k) a)) [17, 21] S39.loc (by omega) (by decide) hJ⟩
      | 7, ho =>
        obtain rfl := Option.some.inj ho
        have e0 := hout 0 (by kernel_rfl)
        replace e0 : a'.eval (.tmp 0) = _ := e0.trans rfl
        exact wp_move (.tmp 0) rfl _ e0 ⟨_, rfl, told_of rfl, keepG (St := (S39 w b (.slice vo ws.length vc) P (restV vo ws.length vc k) a)) [17, 21] S39.loc (by omega) (by decide) hJ⟩
      | 8, ho =>
        obtain rfl := Option.some.inj ho
        have e0 : a'.eval (.tmp 18) = P0 b := by have h9 := hin 7 18 (by kernel_rfl) (by kernel_rfl); exact h9.1.trans (told_is _ h9.2 rfl)
        exact o_nil (.tmp 18) rfl _ e0 ⟨_, rfl, told_of rfl, keepG (St := (S39 w b (.slice vo ws.length vc) P (restV vo ws.length vc k) a)) [17, 21] S39.loc (by omega) (by decide) hJ⟩
      | 9, ho =>
        obtain rfl := Option.some.inj ho
        have e0 : a'.eval (.tmp 19) = P0 b := by have h9 := hin 8 19 (by kernel_rfl) (by kernel_rfl); exact h9.1.trans (told_is _ h9.2 rfl)
        exact o_fld68_0 (.tmp 19) rfl _ e0 ⟨_, rfl, told_of rfl, keepG (St := (S39 w b (.slice vo ws.length vc) P (restV vo ws.length vc k) a)) [17, 21] S39.loc (by omega) (by decide) hJ⟩
      | 10, ho =>
        obtain rfl := Option.some.inj ho
        have e0 : a'.eval (.tmp 20) = .pointer (some ⟨b, 0, none⟩) := by have h9 := hin 9 20 (by kernel_rfl) (by kernel_rfl); exact h9.1.trans (told_is _ h9.2 rfl)
        exact o_fld66_3 (.tmp 20) rfl _ e0 ⟨_, rfl, told_of rfl, keepG (St := (S39 w b (.slice vo ws.length vc) P (restV vo ws.length vc k) a)) [17, 21] S39.loc (by omega) (by decide) hJ⟩
      | 11, ho =>
        obtain rfl := Option.some.inj ho
        have e0 : a'.eval (.tmp 21) = .pointer (some ⟨b, 3, none⟩) := by have h9 := hin 10 21 (by kernel_rfl) (by kernel_rfl); exact h9.1.trans (told_is _ h9.2 rfl)
        have hJ0 := hJ.2
        simp only [hnot 17 (by kernel_rfl), hnot 21 (by kernel_rfl)] at hJ0
        exact o_load2 (.tmp 21) rfl _ _ e0 (fits_cell hJ0 3 _ rfl) ⟨_, rfl, told_of rfl, keepG (St := (S39 w b (.slice vo ws.length vc) P (restV vo ws.length vc k) a)) [17, 21] S39.loc (by omega) (by decide) hJ⟩
      | 12, ho =>
        obtain rfl := Option.some.inj ho
        have e0 : a'.eval (.tmp 17) = .int .i64 a := by have h9 := hin 6 17 (by kernel_rfl) (by kernel_rfl); exact h9.1.trans (told_is _ h9.2 rfl)
        have e1 : a'.eval (.tmp 22) = .int .i64 P.known := by have h9 := hin 11 22 (by kernel_rfl) (by kernel_rfl); exact h9.1.trans (told_is _ h9.2 rfl)
        refine o_sub2 (.tmp 17) (.tmp 22) rfl a P.known (by have := unhide HKE; have := unhide HLN; omega) e0 e1 ?_
        rw [unhide HKE]
        exact ⟨_, rfl, told_of rfl, keepG (St := (S39 w b (.slice vo ws.length vc) P (restV vo ws.length vc k) a)) [17, 21] S39.loc (by omega) (by decide) hJ⟩
      | 13, ho =>
        obtain rfl := Option.some.inj ho
        have e0 : a'.eval (.tmp 16) = .slice vo ws.length vc := by have h9 := hin 5 16 (by kernel_rfl) (by kernel_rfl); exact h9.1.trans (told_is _ h9.2 rfl)
        have e1 : a'.eval (.tmp 23) = .int .i64 (k : Nat) := by have h9 := hin 12 23 (by kernel_rfl) (by kernel_rfl); exact h9.1.trans (told_is _ h9.2 rfl)
        exact o_rest (.tmp 16) 23 rfl vo ws.length vc k (unhide HVC) (unhide HVN) (by have := unhide HLN; omega) e0 e1 ⟨_, rfl, told_of rfl, keepG (St := (S39 w b (.slice vo ws.length vc) P (restV vo ws.length vc k) a)) [17, 21] S39.loc (by omega) (by decide) hJ⟩
      | 14, ho =>
        obtain rfl := Option.some.inj ho
        have e0 := hout 1 (by kernel_rfl)
        replace e0 : a'.eval (.tmp 1) = _ := e0.trans rfl
        exact wp_move (.tmp 1) rfl _ e0 ⟨_, rfl, told_of rfl, keepG (St := (S39 w b (.slice vo ws.length vc) P (restV vo ws.length vc k) a)) [17, 21] S39.loc (by omega) (by decide) hJ⟩
      | 15, ho =>
        obtain rfl := Option.some.inj ho
        have e0 : a'.eval (.tmp 11) = P0 b := by have h9 := hin 0 11 (by kernel_rfl) (by kernel_rfl); exact h9.1.trans (told_is _ h9.2 rfl)
        exact o_nil (.tmp 11) rfl _ e0 ⟨_, rfl, told_of rfl, keepG (St := (S39 w b (.slice vo ws.length vc) P (restV vo ws.length vc k) a)) [17, 21] S39.loc (by omega) (by decide) hJ⟩
      | 16, ho =>
        obtain rfl := Option.some.inj ho
        have e0 : a'.eval (.tmp 26) = P0 b := by have h9 := hin 15 26 (by kernel_rfl) (by kernel_rfl); exact h9.1.trans (told_is _ h9.2 rfl)
        exact o_fld68_1 (.tmp 26) rfl _ e0 ⟨_, rfl, told_of rfl, keepG (St := (S39 w b (.slice vo ws.length vc) P (restV vo ws.length vc k) a)) [17, 21] S39.loc (by omega) (by decide) hJ⟩
      | 17, ho =>
        obtain rfl := Option.some.inj ho
        have e0 : a'.eval (.tmp 27) = .pointer (some ⟨b, 7, none⟩) := by have h9 := hin 16 27 (by kernel_rfl) (by kernel_rfl); exact h9.1.trans (told_is _ h9.2 rfl)
        have e1 : a'.eval (.tmp 24) = restV vo ws.length vc k := by have h9 := hin 13 24 (by kernel_rfl) (by kernel_rfl); exact h9.1.trans (told_is _ h9.2 rfl)
        refine o_st30 (.tmp 27) (.tmp 24) rfl rfl b 7 68 _ _ e0 e1 ⟨_, _, _, rfl⟩ hJ.2 (by simp [Ps.F]) fun W hBW hkW => ⟨_, rfl, told_no rfl, nextG (St := (S39 w b (.slice vo ws.length vc) P (restV vo ws.length vc k) a)) (by omega) ⟨hJ.1.trans hkW, hBW⟩⟩
      | 18, ho =>
        obtain rfl := Option.some.inj ho
        have e0 : a'.eval (.tmp 12) = P0 b := by have h9 := hin 1 12 (by kernel_rfl) (by kernel_rfl); exact h9.1.trans (told_is _ h9.2 rfl)
        exact o_nil (.tmp 12) rfl _ e0 ⟨_, rfl, told_of rfl, keepG (St := (S39 w b (.slice vo ws.length vc) P (restV vo ws.length vc k) a)) [17, 21] S39.loc (by omega) (by decide) hJ⟩
      | 19, ho =>
        obtain rfl := Option.some.inj ho
        have e0 : a'.eval (.tmp 28) = P0 b := by have h9 := hin 18 28 (by kernel_rfl) (by kernel_rfl); exact h9.1.trans (told_is _ h9.2 rfl)
        exact o_fld68_0 (.tmp 28) rfl _ e0 ⟨_, rfl, told_of rfl, keepG (St := (S39 w b (.slice vo ws.length vc) P (restV vo ws.length vc k) a)) [17, 21] S39.loc (by omega) (by decide) hJ⟩
      | 20, ho =>
        obtain rfl := Option.some.inj ho
        have e0 : a'.eval (.tmp 29) = .pointer (some ⟨b, 0, none⟩) := by have h9 := hin 19 29 (by kernel_rfl) (by kernel_rfl); exact h9.1.trans (told_is _ h9.2 rfl)
        exact o_fld66_3 (.tmp 29) rfl _ e0 ⟨_, rfl, told_of rfl, keepG (St := (S39 w b (.slice vo ws.length vc) P (restV vo ws.length vc k) a)) [17, 21] S39.loc (by omega) (by decide) hJ⟩
      | 21, ho =>
        obtain rfl := Option.some.inj ho
        have e0 : a'.eval (.tmp 30) = .pointer (some ⟨b, 3, none⟩) := by have h9 := hin 20 30 (by kernel_rfl) (by kernel_rfl); exact h9.1.trans (told_is _ h9.2 rfl)
        have e1 : a'.eval (.tmp 25) = .int .i64 a := by have h9 := hin 14 25 (by kernel_rfl) (by kernel_rfl); exact h9.1.trans (told_is _ h9.2 rfl)
        refine o_st2 (.tmp 30) (.tmp 25) rfl rfl b 3 68 _ _ e0 e1 ⟨_, rfl⟩ hJ.2 (by simp [Ps.F]) fun W hBW hkW => ⟨_, rfl, told_no rfl, nextG (St := (S39 w b (.slice vo ws.length vc) P (restV vo ws.length vc k) a)) (by omega) ⟨hJ.1.trans hkW, hBW⟩⟩
    intro l vs w9 hl hJ htold
    have t0 : vs 0 = P0 b := told_is _ (htold 0 (by decide)) rfl
    have t1 : vs 1 = P0 b := told_is _ (htold 1 (by decide)) rfl
    have t2 : vs 2 = P0 b := told_is _ (htold 2 (by decide)) rfl
    have t3 : vs 3 = P0 b := told_is _ (htold 3 (by decide)) rfl
    have t4 : vs 4 = .pointer (some ⟨b, 7, none⟩) := told_is _ (htold 4 (by decide)) rfl
    have t5 : vs 5 = .slice vo ws.length vc := told_is _ (htold 5 (by decide)) rfl
    have t6 : vs 6 = .int .i64 a := told_is _ (htold 6 (by decide)) rfl
    have t7 : vs 7 = P0 b := told_is _ (htold 7 (by decide)) rfl
    have t8 : vs 8 = P0 b := told_is _ (htold 8 (by decide)) rfl
    have t9 : vs 9 = .pointer (some ⟨b, 0, none⟩) := told_is _ (htold 9 (by decide)) rfl
    have t10 : vs 10 = .pointer (some ⟨b, 3, none⟩) := told_is _ (htold 10 (by decide)) rfl
    have t11 : vs 11 = .int .i64 P.known := told_is _ (htold 11 (by decide)) rfl
    have t12 : vs 12 = .int .i64 (k : Nat) := told_is _ (htold 12 (by decide)) rfl
    have t13 : vs 13 = restV vo ws.length vc k := told_is _ (htold 13 (by decide)) rfl
    have t14 : vs 14 = .int .i64 a := told_is _ (htold 14 (by decide)) rfl
    have t15 : vs 15 = P0 b := told_is _ (htold 15 (by decide)) rfl
    have t16 : vs 16 = .pointer (some ⟨b, 7, none⟩) := told_is _ (htold 16 (by decide)) rfl
    have t18 : vs 18 = P0 b := told_is _ (htold 18 (by decide)) rfl
    have t19 : vs 19 = .pointer (some ⟨b, 0, none⟩) := told_is _ (htold 19 (by decide)) rfl
    have t20 : vs 20 = .pointer (some ⟨b, 3, none⟩) := told_is _ (htold 20 (by decide)) rfl
    rw [show (List.range 22).map vs = [vs 0, vs 1, vs 2, vs 3, vs 4, vs 5, vs 6, vs 7, vs 8, vs 9, vs 10, vs 11, vs 12, vs 13, vs 14, vs 15, vs 16, vs 17, vs 18, vs 19, vs 20, vs 21] from rfl]
    simp only [t0, t1, t2, t3, t4, t5, t6, t7, t8, t9, t10, t11, t12, t13, t14, t15, t16, t18, t19, t20, putAll, Act.put, List.setIfInBounds_toArray, List.set_cons_succ, List.set_cons_zero]
    clear t0 t1 t2 t3 t4 t5 t6 t7 t8 t9 t10 t11 t12 t13 t14 t15 t16 t18 t19 t20 htold
    have hJ2 : Blk w9 b 68 (P.F (restV vo ws.length vc k) a (.slice vo ws.length vc) true true) := by have h9 := hJ.2; simp only [hl 17 (by decide), hl 21 (by decide)] at h9; exact h9
    have HR := hide (forget_sx (unhide HS) (unhide HLN).2.2.2 (unhide HLN).2.2.1 hJ2 hJ.1)
    clear hJ hl hJ2 hc3
    go_wp2_with fail
    go_end0
    exact ⟨rfl, _, _, unhide HR, fun u hu => List.mem_of_mem_drop hu⟩
  · have hltI : ¬ (P.known : Int) < (a : Int) := by omega
    have e : P.forget a = P := by unfold Ps.forget; rw [Nat.max_eq_left (by omega)]
    rw [e]
    have HS := hide h
    clear h e ha hvc hvn
    go_enter Try.func39, Try.ntmps39
    go_wp2_with fail
    go_end0
    exact ⟨rfl, _, _, SR.same (unhide HS) (Kept.refl _ _), fun u hu => hu⟩
/-- A datagram that is nothing. -/
def Ps.no (P : Ps) (d : Dg) : Bool := !(decide (d.fr = P.oth) && decide (d.to = P.me) && decide (d.vw = P.view)) || !(numB d.seq) || !(numB d.ack) || decide ((P.sent.length : Int) < d.ack) || (decide (d.seq = 0) && decide (0 < d.bs.length)) || decide (256 < d.bs.length)
set_option maxHeartbeats 2000000 in
theorem no_1 (m : Nat) (b : Nat) (v : Value) (ws : List Value) (P : Ps) (d : Dg) (uo : Option Addr) (uc : Nat) (w : World) (h : Sx w b v ws P) (h1 : decide (d.fr = P.oth) = false) : Calls Try.prog 38 #[P0 b, aggV (d.C (.slice uo m uc))] w fun e w' => e = .returned (.bool true) ∧ Kept [] w w' := by
  have H1 := hide h1
  have HS := hide h
  clear h h1
  go_enter Try.func38, Try.ntmps38
  go_wp2_with (
    first
    | (refine wpBoxV (by rfl) (.tmp 1) (by rfl) (d.C (.slice uo m uc)) (by kernel_rfl) ?_
       intro w1 p e1 B1 K1
       have HP := hide B1
       have HK := hide K1
       replace HS := hide ((unhide HS).kept0 K1)
       clear e1 B1 K1))
  have HH := hide (unhide HS).head
  refine wp_region_any mixed (wpAny_tq 29 rfl (by kernel_rfl) [some (.pointer (some ⟨p, 0, none⟩)), some (.int .i64 d.fr), some (P0 b), some (P0 b), some (.pointer (some ⟨b, 0, none⟩)), some (.pointer (some ⟨b, 1, none⟩)), some (.int .i64 P.oth), some (.bool true), some (.bool true), none, none, none, none, none, none, none, none, some (.bool true), some (.bool true), none, none, none, none, none, none, none, none, some (.bool true), some (.bool true)] rfl (by kernel_rfl) (by kernel_rfl) ?_ ?_)
  · intro i o' hi hsk ho a' w2 hout hin hk2
    replace hk2 : Kept [] w1 w2 := ⟨hk2.os, hk2.tape, hk2.output, hk2.size, hk2.block⟩
    match i, ho, hsk with
    | 0, ho, hsk =>
      obtain rfl := Option.some.inj ho
      exact o_fld35_0 (.tmp 3) rfl p ((hout 3 (by kernel_rfl)).trans rfl) ⟨_, rfl, tq_is _ _ _ _ rfl, Kept.refl _ _, fun _ _ _ _ _ => trivial⟩
    | 1, ho, hsk =>
      obtain rfl := Option.some.inj ho
      have e0 : a'.eval (.tmp 6) = .pointer (some ⟨p, 0, none⟩) := is_tq (hin 0 6 (by kernel_rfl) (by kernel_rfl)) rfl
      exact o_load3 (.tmp 6) rfl _ _ e0 (fits_cell ((unhide HP).kept hk2 (by simp)) 0 _ rfl) ⟨_, rfl, tq_is _ _ _ _ rfl, Kept.refl _ _, fun _ _ _ _ _ => trivial⟩
    | 2, ho, hsk =>
      obtain rfl := Option.some.inj ho
      exact wp_move (.tmp 0) rfl _ ((hout 0 (by kernel_rfl)).trans rfl) ⟨_, rfl, tq_is _ _ _ _ rfl, Kept.refl _ _, fun _ _ _ _ _ => trivial⟩
    | 3, ho, hsk =>
      obtain rfl := Option.some.inj ho
      have e0 : a'.eval (.tmp 8) = P0 b := is_tq (hin 2 8 (by kernel_rfl) (by kernel_rfl)) rfl
      exact o_nil (.tmp 8) rfl _ e0 ⟨_, rfl, tq_is _ _ _ _ rfl, Kept.refl _ _, fun _ _ _ _ _ => trivial⟩
    | 4, ho, hsk =>
      obtain rfl := Option.some.inj ho
      have e0 : a'.eval (.tmp 9) = P0 b := is_tq (hin 3 9 (by kernel_rfl) (by kernel_rfl)) rfl
      exact o_fld68_0 (.tmp 9) rfl b e0 ⟨_, rfl, tq_is _ _ _ _ rfl, Kept.refl _ _, fun _ _ _ _ _ => trivial⟩
    | 5, ho, hsk =>
      obtain rfl := Option.some.inj ho
      have e0 : a'.eval (.tmp 10) = .pointer (some ⟨b, 0, none⟩) := is_tq (hin 4 10 (by kernel_rfl) (by kernel_rfl)) rfl
      exact o_fld66_1 (.tmp 10) rfl b e0 ⟨_, rfl, tq_is _ _ _ _ rfl, Kept.refl _ _, fun _ _ _ _ _ => trivial⟩
    | 6, ho, hsk =>
      obtain rfl := Option.some.inj ho
      have e0 : a'.eval (.tmp 11) = .pointer (some ⟨b, 1, none⟩) := is_tq (hin 5 11 (by kernel_rfl) (by kernel_rfl)) rfl
      exact o_load3 (.tmp 11) rfl _ _ e0 (fits_cell ((unhide HH).kept hk2 (by simp)) 1 _ rfl) ⟨_, rfl, tq_is _ _ _ _ rfl, Kept.refl _ _, fun _ _ _ _ _ => trivial⟩
    | 7, ho, hsk =>
      obtain rfl := Option.some.inj ho
      have e0 : a'.eval (.tmp 7) = .int .i64 d.fr := is_tq (hin 1 7 (by kernel_rfl) (by kernel_rfl)) rfl
      have e1 : a'.eval (.tmp 12) = .int .i64 P.oth := is_tq (hin 6 12 (by kernel_rfl) (by kernel_rfl)) rfl
      exact o_neqT3 (.tmp 7) (.tmp 12) rfl _ _ false (unhide H1) e0 e1 ⟨_, rfl, tq_is _ _ _ _ rfl, Kept.refl _ _, fun _ _ _ _ _ => trivial⟩
    | 8, ho, hsk =>
      obtain rfl := Option.some.inj ho
      have e0 : a'.eval (.tmp 13) = .bool true := is_tq (hin 7 13 (by kernel_rfl) (by kernel_rfl)) rfl
      exact wp_move (.tmp 13) rfl _ e0 ⟨_, rfl, tq_is _ _ _ _ rfl, Kept.refl _ _, fun _ _ _ _ _ => trivial⟩
    | 9, ho, hsk =>
      cases hsk
    | 10, ho, hsk =>
      cases hsk
    | 11, ho, hsk =>
      cases hsk
    | 12, ho, hsk =>
      cases hsk
    | 13, ho, hsk =>
      cases hsk
    | 14, ho, hsk =>
      cases hsk
    | 15, ho, hsk =>
      cases hsk
    | 16, ho, hsk =>
      cases hsk
    | 17, ho, hsk =>
      obtain rfl := Option.some.inj ho
      have e0 : a'.eval (.tmp 14) = .bool true := is_tq (hin 8 14 (by kernel_rfl) (by kernel_rfl)) rfl
      exact o_pickOrT (.tmp 14) (.tmp 22) rfl e0 ⟨_, rfl, tq_is _ _ _ _ rfl, Kept.refl _ _, fun _ _ _ _ _ => trivial⟩
    | 18, ho, hsk =>
      obtain rfl := Option.some.inj ho
      have e0 : a'.eval (.tmp 23) = .bool true := is_tq (hin 17 23 (by kernel_rfl) (by kernel_rfl)) rfl
      exact wp_move (.tmp 23) rfl _ e0 ⟨_, rfl, tq_is _ _ _ _ rfl, Kept.refl _ _, fun _ _ _ _ _ => trivial⟩
    | 19, ho, hsk =>
      cases hsk
    | 20, ho, hsk =>
      cases hsk
    | 21, ho, hsk =>
      cases hsk
    | 22, ho, hsk =>
      cases hsk
    | 23, ho, hsk =>
      cases hsk
    | 24, ho, hsk =>
      cases hsk
    | 25, ho, hsk =>
      cases hsk
    | 26, ho, hsk =>
      cases hsk
    | 27, ho, hsk =>
      obtain rfl := Option.some.inj ho
      have e0 : a'.eval (.tmp 24) = .bool true := is_tq (hin 18 24 (by kernel_rfl) (by kernel_rfl)) rfl
      exact o_pickOrT (.tmp 24) (.tmp 32) rfl e0 ⟨_, rfl, tq_is _ _ _ _ rfl, Kept.refl _ _, fun _ _ _ _ _ => trivial⟩
    | 28, ho, hsk =>
      obtain rfl := Option.some.inj ho
      have e0 : a'.eval (.tmp 33) = .bool true := is_tq (hin 27 33 (by kernel_rfl) (by kernel_rfl)) rfl
      exact wp_assignV (.tmp 33) rfl _ e0 ⟨_, rfl, tq_is _ _ _ _ rfl, Kept.refl _ _, fun _ _ _ _ _ => trivial⟩
  intro w9 hk9
  replace hk9 : Kept [] w1 w9 := ⟨hk9.os, hk9.tape, hk9.output, hk9.size, hk9.block⟩
  simp only [valsQ, List.map_cons, List.map_nil, Option.getD_some, Option.getD_none, List.take_succ_cons, List.take_zero, putAll, Act.put, List.setIfInBounds_toArray, List.set_cons_succ, List.set_cons_zero]
  refine wpAny_done (by kernel_rfl) ?_ _
  replace HS := hide ((unhide HS).kept0 hk9)
  replace HP := hide ((unhide HP).kept hk9 (by simp))
  replace HH := hide (unhide HS).head
  replace HK := hide ((unhide HK).trans hk9)
  clear hk9
  go_wp2_with fail
  go_ret
  exact ⟨rfl, unhide HK⟩
set_option maxHeartbeats 2000000 in
theorem no_2 (m : Nat) (b : Nat) (v : Value) (ws : List Value) (P : Ps) (d : Dg) (uo : Option Addr) (uc : Nat) (w : World) (h : Sx w b v ws P) (h1 : decide (d.fr = P.oth) = true) (h2 : decide (d.to = P.me) = false) : Calls Try.prog 38 #[P0 b, aggV (d.C (.slice uo m uc))] w fun e w' => e = .returned (.bool true) ∧ Kept [] w w' := by
  have H1 := hide h1
  have H2 := hide h2
  have HS := hide h
  clear h h1 h2
  go_enter Try.func38, Try.ntmps38
  go_wp2_with (
    first
    | (refine wpBoxV (by rfl) (.tmp 1) (by rfl) (d.C (.slice uo m uc)) (by kernel_rfl) ?_
       intro w1 p e1 B1 K1
       have HP := hide B1
       have HK := hide K1
       replace HS := hide ((unhide HS).kept0 K1)
       clear e1 B1 K1))
  have HH := hide (unhide HS).head
  refine wp_region_any mixed (wpAny_tq 29 rfl (by kernel_rfl) [some (.pointer (some ⟨p, 0, none⟩)), some (.int .i64 d.fr), some (P0 b), some (P0 b), some (.pointer (some ⟨b, 0, none⟩)), some (.pointer (some ⟨b, 1, none⟩)), some (.int .i64 P.oth), some (.bool false), some (.bool false), some (.pointer (some ⟨p, 1, none⟩)), some (.int .i64 d.to), some (P0 b), some (P0 b), some (.pointer (some ⟨b, 0, none⟩)), some (.pointer (some ⟨b, 0, none⟩)), some (.int .i64 P.me), some (.bool true), some (.bool true), some (.bool true), none, none, none, none, none, none, none, none, some (.bool true), some (.bool true)] rfl (by kernel_rfl) (by kernel_rfl) ?_ ?_)
  · intro i o' hi hsk ho a' w2 hout hin hk2
    replace hk2 : Kept [] w1 w2 := ⟨hk2.os, hk2.tape, hk2.output, hk2.size, hk2.block⟩
    match i, ho, hsk with
    | 0, ho, hsk =>
      obtain rfl := Option.some.inj ho
      exact o_fld35_0 (.tmp 3) rfl p ((hout 3 (by kernel_rfl)).trans rfl) ⟨_, rfl, tq_is _ _ _ _ rfl, Kept.refl _ _, fun _ _ _ _ _ => trivial⟩
    | 1, ho, hsk =>
      obtain rfl := Option.some.inj ho
      have e0 : a'.eval (.tmp 6) = .pointer (some ⟨p, 0, none⟩) := is_tq (hin 0 6 (by kernel_rfl) (by kernel_rfl)) rfl
      exact o_load3 (.tmp 6) rfl _ _ e0 (fits_cell ((unhide HP).kept hk2 (by simp)) 0 _ rfl) ⟨_, rfl, tq_is _ _ _ _ rfl, Kept.refl _ _, fun _ _ _ _ _ => trivial⟩
    | 2, ho, hsk =>
      obtain rfl := Option.some.inj ho
      exact wp_move (.tmp 0) rfl _ ((hout 0 (by kernel_rfl)).trans rfl) ⟨_, rfl, tq_is _ _ _ _ rfl, Kept.refl _ _, fun _ _ _ _ _ => trivial⟩
    | 3, ho, hsk =>
      obtain rfl := Option.some.inj ho
      have e0 : a'.eval (.tmp 8) = P0 b := is_tq (hin 2 8 (by kernel_rfl) (by kernel_rfl)) rfl
      exact o_nil (.tmp 8) rfl _ e0 ⟨_, rfl, tq_is _ _ _ _ rfl, Kept.refl _ _, fun _ _ _ _ _ => trivial⟩
    | 4, ho, hsk =>
      obtain rfl := Option.some.inj ho
      have e0 : a'.eval (.tmp 9) = P0 b := is_tq (hin 3 9 (by kernel_rfl) (by kernel_rfl)) rfl
      exact o_fld68_0 (.tmp 9) rfl b e0 ⟨_, rfl, tq_is _ _ _ _ rfl, Kept.refl _ _, fun _ _ _ _ _ => trivial⟩
    | 5, ho, hsk =>
      obtain rfl := Option.some.inj ho
      have e0 : a'.eval (.tmp 10) = .pointer (some ⟨b, 0, none⟩) := is_tq (hin 4 10 (by kernel_rfl) (by kernel_rfl)) rfl
      exact o_fld66_1 (.tmp 10) rfl b e0 ⟨_, rfl, tq_is _ _ _ _ rfl, Kept.refl _ _, fun _ _ _ _ _ => trivial⟩
    | 6, ho, hsk =>
      obtain rfl := Option.some.inj ho
      have e0 : a'.eval (.tmp 11) = .pointer (some ⟨b, 1, none⟩) := is_tq (hin 5 11 (by kernel_rfl) (by kernel_rfl)) rfl
      exact o_load3 (.tmp 11) rfl _ _ e0 (fits_cell ((unhide HH).kept hk2 (by simp)) 1 _ rfl) ⟨_, rfl, tq_is _ _ _ _ rfl, Kept.refl _ _, fun _ _ _ _ _ => trivial⟩
    | 7, ho, hsk =>
      obtain rfl := Option.some.inj ho
      have e0 : a'.eval (.tmp 7) = .int .i64 d.fr := is_tq (hin 1 7 (by kernel_rfl) (by kernel_rfl)) rfl
      have e1 : a'.eval (.tmp 12) = .int .i64 P.oth := is_tq (hin 6 12 (by kernel_rfl) (by kernel_rfl)) rfl
      exact o_neqT3 (.tmp 7) (.tmp 12) rfl _ _ true (unhide H1) e0 e1 ⟨_, rfl, tq_is _ _ _ _ rfl, Kept.refl _ _, fun _ _ _ _ _ => trivial⟩
    | 8, ho, hsk =>
      obtain rfl := Option.some.inj ho
      have e0 : a'.eval (.tmp 13) = .bool false := is_tq (hin 7 13 (by kernel_rfl) (by kernel_rfl)) rfl
      exact wp_move (.tmp 13) rfl _ e0 ⟨_, rfl, tq_is _ _ _ _ rfl, Kept.refl _ _, fun _ _ _ _ _ => trivial⟩
    | 9, ho, hsk =>
      obtain rfl := Option.some.inj ho
      exact o_fld35_1 (.tmp 3) rfl p ((hout 3 (by kernel_rfl)).trans rfl) ⟨_, rfl, tq_is _ _ _ _ rfl, Kept.refl _ _, fun _ _ _ _ _ => trivial⟩
    | 10, ho, hsk =>
      obtain rfl := Option.some.inj ho
      have e0 : a'.eval (.tmp 15) = .pointer (some ⟨p, 1, none⟩) := is_tq (hin 9 15 (by kernel_rfl) (by kernel_rfl)) rfl
      exact o_load3 (.tmp 15) rfl _ _ e0 (fits_cell ((unhide HP).kept hk2 (by simp)) 1 _ rfl) ⟨_, rfl, tq_is _ _ _ _ rfl, Kept.refl _ _, fun _ _ _ _ _ => trivial⟩
    | 11, ho, hsk =>
      obtain rfl := Option.some.inj ho
      exact wp_move (.tmp 0) rfl _ ((hout 0 (by kernel_rfl)).trans rfl) ⟨_, rfl, tq_is _ _ _ _ rfl, Kept.refl _ _, fun _ _ _ _ _ => trivial⟩
    | 12, ho, hsk =>
      obtain rfl := Option.some.inj ho
      have e0 : a'.eval (.tmp 17) = P0 b := is_tq (hin 11 17 (by kernel_rfl) (by kernel_rfl)) rfl
      exact o_nil (.tmp 17) rfl _ e0 ⟨_, rfl, tq_is _ _ _ _ rfl, Kept.refl _ _, fun _ _ _ _ _ => trivial⟩
    | 13, ho, hsk =>
      obtain rfl := Option.some.inj ho
      have e0 : a'.eval (.tmp 18) = P0 b := is_tq (hin 12 18 (by kernel_rfl) (by kernel_rfl)) rfl
      exact o_fld68_0 (.tmp 18) rfl b e0 ⟨_, rfl, tq_is _ _ _ _ rfl, Kept.refl _ _, fun _ _ _ _ _ => trivial⟩
    | 14, ho, hsk =>
      obtain rfl := Option.some.inj ho
      have e0 : a'.eval (.tmp 19) = .pointer (some ⟨b, 0, none⟩) := is_tq (hin 13 19 (by kernel_rfl) (by kernel_rfl)) rfl
      exact o_fld66_0 (.tmp 19) rfl b e0 ⟨_, rfl, tq_is _ _ _ _ rfl, Kept.refl _ _, fun _ _ _ _ _ => trivial⟩
    | 15, ho, hsk =>
      obtain rfl := Option.some.inj ho
      have e0 : a'.eval (.tmp 20) = .pointer (some ⟨b, 0, none⟩) := is_tq (hin 14 20 (by kernel_rfl) (by kernel_rfl)) rfl
      exact o_load3 (.tmp 20) rfl _ _ e0 (fits_cell ((unhide HH).kept hk2 (by simp)) 0 _ rfl) ⟨_, rfl, tq_is _ _ _ _ rfl, Kept.refl _ _, fun _ _ _ _ _ => trivial⟩
    | 16, ho, hsk =>
      obtain rfl := Option.some.inj ho
      have e0 : a'.eval (.tmp 16) = .int .i64 d.to := is_tq (hin 10 16 (by kernel_rfl) (by kernel_rfl)) rfl
      have e1 : a'.eval (.tmp 21) = .int .i64 P.me := is_tq (hin 15 21 (by kernel_rfl) (by kernel_rfl)) rfl
      exact o_neqT3 (.tmp 16) (.tmp 21) rfl _ _ false (unhide H2) e0 e1 ⟨_, rfl, tq_is _ _ _ _ rfl, Kept.refl _ _, fun _ _ _ _ _ => trivial⟩
    | 17, ho, hsk =>
      obtain rfl := Option.some.inj ho
      have e0 : a'.eval (.tmp 14) = .bool false := is_tq (hin 8 14 (by kernel_rfl) (by kernel_rfl)) rfl
      have e1 : a'.eval (.tmp 22) = .bool true := is_tq (hin 16 22 (by kernel_rfl) (by kernel_rfl)) rfl
      exact o_pickOr0 (.tmp 14) (.tmp 22) rfl _ e0 e1 ⟨_, rfl, tq_is _ _ _ _ rfl, Kept.refl _ _, fun _ _ _ _ _ => trivial⟩
    | 18, ho, hsk =>
      obtain rfl := Option.some.inj ho
      have e0 : a'.eval (.tmp 23) = .bool true := is_tq (hin 17 23 (by kernel_rfl) (by kernel_rfl)) rfl
      exact wp_move (.tmp 23) rfl _ e0 ⟨_, rfl, tq_is _ _ _ _ rfl, Kept.refl _ _, fun _ _ _ _ _ => trivial⟩
    | 19, ho, hsk =>
      cases hsk
    | 20, ho, hsk =>
      cases hsk
    | 21, ho, hsk =>
      cases hsk
    | 22, ho, hsk =>
      cases hsk
    | 23, ho, hsk =>
      cases hsk
    | 24, ho, hsk =>
      cases hsk
    | 25, ho, hsk =>
      cases hsk
    | 26, ho, hsk =>
      cases hsk
    | 27, ho, hsk =>
      obtain rfl := Option.some.inj ho
      have e0 : a'.eval (.tmp 24) = .bool true := is_tq (hin 18 24 (by kernel_rfl) (by kernel_rfl)) rfl
      exact o_pickOrT (.tmp 24) (.tmp 32) rfl e0 ⟨_, rfl, tq_is _ _ _ _ rfl, Kept.refl _ _, fun _ _ _ _ _ => trivial⟩
    | 28, ho, hsk =>
      obtain rfl := Option.some.inj ho
      have e0 : a'.eval (.tmp 33) = .bool true := is_tq (hin 27 33 (by kernel_rfl) (by kernel_rfl)) rfl
      exact wp_assignV (.tmp 33) rfl _ e0 ⟨_, rfl, tq_is _ _ _ _ rfl, Kept.refl _ _, fun _ _ _ _ _ => trivial⟩
  intro w9 hk9
  replace hk9 : Kept [] w1 w9 := ⟨hk9.os, hk9.tape, hk9.output, hk9.size, hk9.block⟩
  simp only [valsQ, List.map_cons, List.map_nil, Option.getD_some, Option.getD_none, List.take_succ_cons, List.take_zero, putAll, Act.put, List.setIfInBounds_toArray, List.set_cons_succ, List.set_cons_zero]
  refine wpAny_done (by kernel_rfl) ?_ _
  replace HS := hide ((unhide HS).kept0 hk9)
  replace HP := hide ((unhide HP).kept hk9 (by simp))
  replace HH := hide (unhide HS).head
  replace HK := hide ((unhide HK).trans hk9)
  clear hk9
  go_wp2_with fail
  go_ret
  exact ⟨rfl, unhide HK⟩
set_option maxHeartbeats 2000000 in
theorem no_3 (m : Nat) (b : Nat) (v : Value) (ws : List Value) (P : Ps) (d : Dg) (uo : Option Addr) (uc : Nat) (w : World) (h : Sx w b v ws P) (h1 : decide (d.fr = P.oth) = true) (h2 : decide (d.to = P.me) = true) (h3 : decide (d.vw = P.view) = false) : Calls Try.prog 38 #[P0 b, aggV (d.C (.slice uo m uc))] w fun e w' => e = .returned (.bool true) ∧ Kept [] w w' := by
  have H1 := hide h1
  have H2 := hide h2
  have H3 := hide h3
  have HS := hide h
  clear h h1 h2 h3
  go_enter Try.func38, Try.ntmps38
  go_wp2_with (
    first
    | (refine wpBoxV (by rfl) (.tmp 1) (by rfl) (d.C (.slice uo m uc)) (by kernel_rfl) ?_
       intro w1 p e1 B1 K1
       have HP := hide B1
       have HK := hide K1
       replace HS := hide ((unhide HS).kept0 K1)
       clear e1 B1 K1))
  have HH := hide (unhide HS).head
  refine wp_region_any mixed (wpAny_tq 29 rfl (by kernel_rfl) [some (.pointer (some ⟨p, 0, none⟩)), some (.int .i64 d.fr), some (P0 b), some (P0 b), some (.pointer (some ⟨b, 0, none⟩)), some (.pointer (some ⟨b, 1, none⟩)), some (.int .i64 P.oth), some (.bool false), some (.bool false), some (.pointer (some ⟨p, 1, none⟩)), some (.int .i64 d.to), some (P0 b), some (P0 b), some (.pointer (some ⟨b, 0, none⟩)), some (.pointer (some ⟨b, 0, none⟩)), some (.int .i64 P.me), some (.bool false), some (.bool false), some (.bool false), some (.pointer (some ⟨p, 2, none⟩)), some (.int .i64 d.vw), some (P0 b), some (P0 b), some (.pointer (some ⟨b, 0, none⟩)), some (.pointer (some ⟨b, 2, none⟩)), some (.int .i64 P.view), some (.bool true), some (.bool true), some (.bool true)] rfl (by kernel_rfl) (by kernel_rfl) ?_ ?_)
  · intro i o' hi hsk ho a' w2 hout hin hk2
    replace hk2 : Kept [] w1 w2 := ⟨hk2.os, hk2.tape, hk2.output, hk2.size, hk2.block⟩
    match i, ho, hsk with
    | 0, ho, hsk =>
      obtain rfl := Option.some.inj ho
      exact o_fld35_0 (.tmp 3) rfl p ((hout 3 (by kernel_rfl)).trans rfl) ⟨_, rfl, tq_is _ _ _ _ rfl, Kept.refl _ _, fun _ _ _ _ _ => trivial⟩
    | 1, ho, hsk =>
      obtain rfl := Option.some.inj ho
      have e0 : a'.eval (.tmp 6) = .pointer (some ⟨p, 0, none⟩) := is_tq (hin 0 6 (by kernel_rfl) (by kernel_rfl)) rfl
      exact o_load3 (.tmp 6) rfl _ _ e0 (fits_cell ((unhide HP).kept hk2 (by simp)) 0 _ rfl) ⟨_, rfl, tq_is _ _ _ _ rfl, Kept.refl _ _, fun _ _ _ _ _ => trivial⟩
    | 2, ho, hsk =>
      obtain rfl := Option.some.inj ho
      exact wp_move (.tmp 0) rfl _ ((hout 0 (by kernel_rfl)).trans rfl) ⟨_, rfl, tq_is _ _ _ _ rfl, Kept.refl _ _, fun _ _ _ _ _ => trivial⟩
    | 3, ho, hsk =>
      obtain rfl := Option.some.inj ho
      have e0 : a'.eval (.tmp 8) = P0 b := is_tq (hin 2 8 (by kernel_rfl) (by kernel_rfl)) rfl
      exact o_nil (.tmp 8) rfl _ e0 ⟨_, rfl, tq_is _ _ _ _ rfl, Kept.refl _ _, fun _ _ _ _ _ => trivial⟩
    | 4, ho, hsk =>
      obtain rfl := Option.some.inj ho
      have e0 : a'.eval (.tmp 9) = P0 b := is_tq (hin 3 9 (by kernel_rfl) (by kernel_rfl)) rfl
      exact o_fld68_0 (.tmp 9) rfl b e0 ⟨_, rfl, tq_is _ _ _ _ rfl, Kept.refl _ _, fun _ _ _ _ _ => trivial⟩
    | 5, ho, hsk =>
      obtain rfl := Option.some.inj ho
      have e0 : a'.eval (.tmp 10) = .pointer (some ⟨b, 0, none⟩) := is_tq (hin 4 10 (by kernel_rfl) (by kernel_rfl)) rfl
      exact o_fld66_1 (.tmp 10) rfl b e0 ⟨_, rfl, tq_is _ _ _ _ rfl, Kept.refl _ _, fun _ _ _ _ _ => trivial⟩
    | 6, ho, hsk =>
      obtain rfl := Option.some.inj ho
      have e0 : a'.eval (.tmp 11) = .pointer (some ⟨b, 1, none⟩) := is_tq (hin 5 11 (by kernel_rfl) (by kernel_rfl)) rfl
      exact o_load3 (.tmp 11) rfl _ _ e0 (fits_cell ((unhide HH).kept hk2 (by simp)) 1 _ rfl) ⟨_, rfl, tq_is _ _ _ _ rfl, Kept.refl _ _, fun _ _ _ _ _ => trivial⟩
    | 7, ho, hsk =>
      obtain rfl := Option.some.inj ho
      have e0 : a'.eval (.tmp 7) = .int .i64 d.fr := is_tq (hin 1 7 (by kernel_rfl) (by kernel_rfl)) rfl
      have e1 : a'.eval (.tmp 12) = .int .i64 P.oth := is_tq (hin 6 12 (by kernel_rfl) (by kernel_rfl)) rfl
      exact o_neqT3 (.tmp 7) (.tmp 12) rfl _ _ true (unhide H1) e0 e1 ⟨_, rfl, tq_is _ _ _ _ rfl, Kept.refl _ _, fun _ _ _ _ _ => trivial⟩
    | 8, ho, hsk =>
      obtain rfl := Option.some.inj ho
      have e0 : a'.eval (.tmp 13) = .bool false := is_tq (hin 7 13 (by kernel_rfl) (by kernel_rfl)) rfl
      exact wp_move (.tmp 13) rfl _ e0 ⟨_, rfl, tq_is _ _ _ _ rfl, Kept.refl _ _, fun _ _ _ _ _ => trivial⟩
    | 9, ho, hsk =>
      obtain rfl := Option.some.inj ho
      exact o_fld35_1 (.tmp 3) rfl p ((hout 3 (by kernel_rfl)).trans rfl) ⟨_, rfl, tq_is _ _ _ _ rfl, Kept.refl _ _, fun _ _ _ _ _ => trivial⟩
    | 10, ho, hsk =>
      obtain rfl := Option.some.inj ho
      have e0 : a'.eval (.tmp 15) = .pointer (some ⟨p, 1, none⟩) := is_tq (hin 9 15 (by kernel_rfl) (by kernel_rfl)) rfl
      exact o_load3 (.tmp 15) rfl _ _ e0 (fits_cell ((unhide HP).kept hk2 (by simp)) 1 _ rfl) ⟨_, rfl, tq_is _ _ _ _ rfl, Kept.refl _ _, fun _ _ _ _ _ => trivial⟩
    | 11, ho, hsk =>
      obtain rfl := Option.some.inj ho
      exact wp_move (.tmp 0) rfl _ ((hout 0 (by kernel_rfl)).trans rfl) ⟨_, rfl, tq_is _ _ _ _ rfl, Kept.refl _ _, fun _ _ _ _ _ => trivial⟩
    | 12, ho, hsk =>
      obtain rfl := Option.some.inj ho
      have e0 : a'.eval (.tmp 17) = P0 b := is_tq (hin 11 17 (by kernel_rfl) (by kernel_rfl)) rfl
      exact o_nil (.tmp 17) rfl _ e0 ⟨_, rfl, tq_is _ _ _ _ rfl, Kept.refl _ _, fun _ _ _ _ _ => trivial⟩
    | 13, ho, hsk =>
      obtain rfl := Option.some.inj ho
      have e0 : a'.eval (.tmp 18) = P0 b := is_tq (hin 12 18 (by kernel_rfl) (by kernel_rfl)) rfl
      exact o_fld68_0 (.tmp 18) rfl b e0 ⟨_, rfl, tq_is _ _ _ _ rfl, Kept.refl _ _, fun _ _ _ _ _ => trivial⟩
    | 14, ho, hsk =>
      obtain rfl := Option.some.inj ho
      have e0 : a'.eval (.tmp 19) = .pointer (some ⟨b, 0, none⟩) := is_tq (hin 13 19 (by kernel_rfl) (by kernel_rfl)) rfl
      exact o_fld66_0 (.tmp 19) rfl b e0 ⟨_, rfl, tq_is _ _ _ _ rfl, Kept.refl _ _, fun _ _ _ _ _ => trivial⟩
    | 15, ho, hsk =>
      obtain rfl := Option.some.inj ho
      have e0 : a'.eval (.tmp 20) = .pointer (some ⟨b, 0, none⟩) := is_tq (hin 14 20 (by kernel_rfl) (by kernel_rfl)) rfl
      exact o_load3 (.tmp 20) rfl _ _ e0 (fits_cell ((unhide HH).kept hk2 (by simp)) 0 _ rfl) ⟨_, rfl, tq_is _ _ _ _ rfl, Kept.refl _ _, fun _ _ _ _ _ => trivial⟩
    | 16, ho, hsk =>
      obtain rfl := Option.some.inj ho
      have e0 : a'.eval (.tmp 16) = .int .i64 d.to := is_tq (hin 10 16 (by kernel_rfl) (by kernel_rfl)) rfl
      have e1 : a'.eval (.tmp 21) = .int .i64 P.me := is_tq (hin 15 21 (by kernel_rfl) (by kernel_rfl)) rfl
      exact o_neqT3 (.tmp 16) (.tmp 21) rfl _ _ true (unhide H2) e0 e1 ⟨_, rfl, tq_is _ _ _ _ rfl, Kept.refl _ _, fun _ _ _ _ _ => trivial⟩
    | 17, ho, hsk =>
      obtain rfl := Option.some.inj ho
      have e0 : a'.eval (.tmp 14) = .bool false := is_tq (hin 8 14 (by kernel_rfl) (by kernel_rfl)) rfl
      have e1 : a'.eval (.tmp 22) = .bool false := is_tq (hin 16 22 (by kernel_rfl) (by kernel_rfl)) rfl
      exact o_pickOr0 (.tmp 14) (.tmp 22) rfl _ e0 e1 ⟨_, rfl, tq_is _ _ _ _ rfl, Kept.refl _ _, fun _ _ _ _ _ => trivial⟩
    | 18, ho, hsk =>
      obtain rfl := Option.some.inj ho
      have e0 : a'.eval (.tmp 23) = .bool false := is_tq (hin 17 23 (by kernel_rfl) (by kernel_rfl)) rfl
      exact wp_move (.tmp 23) rfl _ e0 ⟨_, rfl, tq_is _ _ _ _ rfl, Kept.refl _ _, fun _ _ _ _ _ => trivial⟩
    | 19, ho, hsk =>
      obtain rfl := Option.some.inj ho
      exact o_fld35_2 (.tmp 3) rfl p ((hout 3 (by kernel_rfl)).trans rfl) ⟨_, rfl, tq_is _ _ _ _ rfl, Kept.refl _ _, fun _ _ _ _ _ => trivial⟩
    | 20, ho, hsk =>
      obtain rfl := Option.some.inj ho
      have e0 : a'.eval (.tmp 25) = .pointer (some ⟨p, 2, none⟩) := is_tq (hin 19 25 (by kernel_rfl) (by kernel_rfl)) rfl
      exact o_load2 (.tmp 25) rfl _ _ e0 (fits_cell ((unhide HP).kept hk2 (by simp)) 2 _ rfl) ⟨_, rfl, tq_is _ _ _ _ rfl, Kept.refl _ _, fun _ _ _ _ _ => trivial⟩
    | 21, ho, hsk =>
      obtain rfl := Option.some.inj ho
      exact wp_move (.tmp 0) rfl _ ((hout 0 (by kernel_rfl)).trans rfl) ⟨_, rfl, tq_is _ _ _ _ rfl, Kept.refl _ _, fun _ _ _ _ _ => trivial⟩
    | 22, ho, hsk =>
      obtain rfl := Option.some.inj ho
      have e0 : a'.eval (.tmp 27) = P0 b := is_tq (hin 21 27 (by kernel_rfl) (by kernel_rfl)) rfl
      exact o_nil (.tmp 27) rfl _ e0 ⟨_, rfl, tq_is _ _ _ _ rfl, Kept.refl _ _, fun _ _ _ _ _ => trivial⟩
    | 23, ho, hsk =>
      obtain rfl := Option.some.inj ho
      have e0 : a'.eval (.tmp 28) = P0 b := is_tq (hin 22 28 (by kernel_rfl) (by kernel_rfl)) rfl
      exact o_fld68_0 (.tmp 28) rfl b e0 ⟨_, rfl, tq_is _ _ _ _ rfl, Kept.refl _ _, fun _ _ _ _ _ => trivial⟩
    | 24, ho, hsk =>
      obtain rfl := Option.some.inj ho
      have e0 : a'.eval (.tmp 29) = .pointer (some ⟨b, 0, none⟩) := is_tq (hin 23 29 (by kernel_rfl) (by kernel_rfl)) rfl
      exact o_fld66_2 (.tmp 29) rfl b e0 ⟨_, rfl, tq_is _ _ _ _ rfl, Kept.refl _ _, fun _ _ _ _ _ => trivial⟩
    | 25, ho, hsk =>
      obtain rfl := Option.some.inj ho
      have e0 : a'.eval (.tmp 30) = .pointer (some ⟨b, 2, none⟩) := is_tq (hin 24 30 (by kernel_rfl) (by kernel_rfl)) rfl
      exact o_load2 (.tmp 30) rfl _ _ e0 (fits_cell ((unhide HH).kept hk2 (by simp)) 2 _ rfl) ⟨_, rfl, tq_is _ _ _ _ rfl, Kept.refl _ _, fun _ _ _ _ _ => trivial⟩
    | 26, ho, hsk =>
      obtain rfl := Option.some.inj ho
      have e0 : a'.eval (.tmp 26) = .int .i64 d.vw := is_tq (hin 20 26 (by kernel_rfl) (by kernel_rfl)) rfl
      have e1 : a'.eval (.tmp 31) = .int .i64 P.view := is_tq (hin 25 31 (by kernel_rfl) (by kernel_rfl)) rfl
      exact o_neqT2 (.tmp 26) (.tmp 31) rfl _ _ false (unhide H3) e0 e1 ⟨_, rfl, tq_is _ _ _ _ rfl, Kept.refl _ _, fun _ _ _ _ _ => trivial⟩
    | 27, ho, hsk =>
      obtain rfl := Option.some.inj ho
      have e0 : a'.eval (.tmp 24) = .bool false := is_tq (hin 18 24 (by kernel_rfl) (by kernel_rfl)) rfl
      have e1 : a'.eval (.tmp 32) = .bool true := is_tq (hin 26 32 (by kernel_rfl) (by kernel_rfl)) rfl
      exact o_pickOr0 (.tmp 24) (.tmp 32) rfl _ e0 e1 ⟨_, rfl, tq_is _ _ _ _ rfl, Kept.refl _ _, fun _ _ _ _ _ => trivial⟩
    | 28, ho, hsk =>
      obtain rfl := Option.some.inj ho
      have e0 : a'.eval (.tmp 33) = .bool true := is_tq (hin 27 33 (by kernel_rfl) (by kernel_rfl)) rfl
      exact wp_assignV (.tmp 33) rfl _ e0 ⟨_, rfl, tq_is _ _ _ _ rfl, Kept.refl _ _, fun _ _ _ _ _ => trivial⟩
  intro w9 hk9
  replace hk9 : Kept [] w1 w9 := ⟨hk9.os, hk9.tape, hk9.output, hk9.size, hk9.block⟩
  simp only [valsQ, List.map_cons, List.map_nil, Option.getD_some, List.take_succ_cons, List.take_zero, putAll, Act.put, List.setIfInBounds_toArray, List.set_cons_succ, List.set_cons_zero]
  refine wpAny_done (by kernel_rfl) ?_ _
  replace HS := hide ((unhide HS).kept0 hk9)
  replace HP := hide ((unhide HP).kept hk9 (by simp))
  replace HH := hide (unhide HS).head
  replace HK := hide ((unhide HK).trans hk9)
  clear hk9
  go_wp2_with fail
  go_ret
  exact ⟨rfl, unhide HK⟩
set_option maxHeartbeats 2000000 in
theorem no_4 (m : Nat) (b : Nat) (v : Value) (ws : List Value) (P : Ps) (d : Dg) (uo : Option Addr) (uc : Nat) (w : World) (h : Sx w b v ws P) (h1 : decide (d.fr = P.oth) = true) (h2 : decide (d.to = P.me) = true) (h3 : decide (d.vw = P.view) = true) (h4 : numB d.seq = false) : Calls Try.prog 38 #[P0 b, aggV (d.C (.slice uo m uc))] w fun e w' => e = .returned (.bool true) ∧ Kept [] w w' := by
  have H1 := hide h1
  have H2 := hide h2
  have H3 := hide h3
  have H4 := hide h4
  have HS := hide h
  clear h h1 h2 h3 h4
  go_enter Try.func38, Try.ntmps38
  go_wp2_with (
    first
    | (refine wpBoxV (by rfl) (.tmp 1) (by rfl) (d.C (.slice uo m uc)) (by kernel_rfl) ?_
       intro w1 p e1 B1 K1
       have HP := hide B1
       have HK := hide K1
       replace HS := hide ((unhide HS).kept0 K1)
       clear e1 B1 K1))
  have HH := hide (unhide HS).head
  refine wp_region_any mixed (wpAny_tq 29 rfl (by kernel_rfl) [some (.pointer (some ⟨p, 0, none⟩)), some (.int .i64 d.fr), some (P0 b), some (P0 b), some (.pointer (some ⟨b, 0, none⟩)), some (.pointer (some ⟨b, 1, none⟩)), some (.int .i64 P.oth), some (.bool false), some (.bool false), some (.pointer (some ⟨p, 1, none⟩)), some (.int .i64 d.to), some (P0 b), some (P0 b), some (.pointer (some ⟨b, 0, none⟩)), some (.pointer (some ⟨b, 0, none⟩)), some (.int .i64 P.me), some (.bool false), some (.bool false), some (.bool false), some (.pointer (some ⟨p, 2, none⟩)), some (.int .i64 d.vw), some (P0 b), some (P0 b), some (.pointer (some ⟨b, 0, none⟩)), some (.pointer (some ⟨b, 2, none⟩)), some (.int .i64 P.view), some (.bool false), some (.bool false), some (.bool false)] rfl (by kernel_rfl) (by kernel_rfl) ?_ ?_)
  · intro i o' hi hsk ho a' w2 hout hin hk2
    replace hk2 : Kept [] w1 w2 := ⟨hk2.os, hk2.tape, hk2.output, hk2.size, hk2.block⟩
    match i, ho, hsk with
    | 0, ho, hsk =>
      obtain rfl := Option.some.inj ho
      exact o_fld35_0 (.tmp 3) rfl p ((hout 3 (by kernel_rfl)).trans rfl) ⟨_, rfl, tq_is _ _ _ _ rfl, Kept.refl _ _, fun _ _ _ _ _ => trivial⟩
    | 1, ho, hsk =>
      obtain rfl := Option.some.inj ho
      have e0 : a'.eval (.tmp 6) = .pointer (some ⟨p, 0, none⟩) := is_tq (hin 0 6 (by kernel_rfl) (by kernel_rfl)) rfl
      exact o_load3 (.tmp 6) rfl _ _ e0 (fits_cell ((unhide HP).kept hk2 (by simp)) 0 _ rfl) ⟨_, rfl, tq_is _ _ _ _ rfl, Kept.refl _ _, fun _ _ _ _ _ => trivial⟩
    | 2, ho, hsk =>
      obtain rfl := Option.some.inj ho
      exact wp_move (.tmp 0) rfl _ ((hout 0 (by kernel_rfl)).trans rfl) ⟨_, rfl, tq_is _ _ _ _ rfl, Kept.refl _ _, fun _ _ _ _ _ => trivial⟩
    | 3, ho, hsk =>
      obtain rfl := Option.some.inj ho
      have e0 : a'.eval (.tmp 8) = P0 b := is_tq (hin 2 8 (by kernel_rfl) (by kernel_rfl)) rfl
      exact o_nil (.tmp 8) rfl _ e0 ⟨_, rfl, tq_is _ _ _ _ rfl, Kept.refl _ _, fun _ _ _ _ _ => trivial⟩
    | 4, ho, hsk =>
      obtain rfl := Option.some.inj ho
      have e0 : a'.eval (.tmp 9) = P0 b := is_tq (hin 3 9 (by kernel_rfl) (by kernel_rfl)) rfl
      exact o_fld68_0 (.tmp 9) rfl b e0 ⟨_, rfl, tq_is _ _ _ _ rfl, Kept.refl _ _, fun _ _ _ _ _ => trivial⟩
    | 5, ho, hsk =>
      obtain rfl := Option.some.inj ho
      have e0 : a'.eval (.tmp 10) = .pointer (some ⟨b, 0, none⟩) := is_tq (hin 4 10 (by kernel_rfl) (by kernel_rfl)) rfl
      exact o_fld66_1 (.tmp 10) rfl b e0 ⟨_, rfl, tq_is _ _ _ _ rfl, Kept.refl _ _, fun _ _ _ _ _ => trivial⟩
    | 6, ho, hsk =>
      obtain rfl := Option.some.inj ho
      have e0 : a'.eval (.tmp 11) = .pointer (some ⟨b, 1, none⟩) := is_tq (hin 5 11 (by kernel_rfl) (by kernel_rfl)) rfl
      exact o_load3 (.tmp 11) rfl _ _ e0 (fits_cell ((unhide HH).kept hk2 (by simp)) 1 _ rfl) ⟨_, rfl, tq_is _ _ _ _ rfl, Kept.refl _ _, fun _ _ _ _ _ => trivial⟩
    | 7, ho, hsk =>
      obtain rfl := Option.some.inj ho
      have e0 : a'.eval (.tmp 7) = .int .i64 d.fr := is_tq (hin 1 7 (by kernel_rfl) (by kernel_rfl)) rfl
      have e1 : a'.eval (.tmp 12) = .int .i64 P.oth := is_tq (hin 6 12 (by kernel_rfl) (by kernel_rfl)) rfl
      exact o_neqT3 (.tmp 7) (.tmp 12) rfl _ _ true (unhide H1) e0 e1 ⟨_, rfl, tq_is _ _ _ _ rfl, Kept.refl _ _, fun _ _ _ _ _ => trivial⟩
    | 8, ho, hsk =>
      obtain rfl := Option.some.inj ho
      have e0 : a'.eval (.tmp 13) = .bool false := is_tq (hin 7 13 (by kernel_rfl) (by kernel_rfl)) rfl
      exact wp_move (.tmp 13) rfl _ e0 ⟨_, rfl, tq_is _ _ _ _ rfl, Kept.refl _ _, fun _ _ _ _ _ => trivial⟩
    | 9, ho, hsk =>
      obtain rfl := Option.some.inj ho
      exact o_fld35_1 (.tmp 3) rfl p ((hout 3 (by kernel_rfl)).trans rfl) ⟨_, rfl, tq_is _ _ _ _ rfl, Kept.refl _ _, fun _ _ _ _ _ => trivial⟩
    | 10, ho, hsk =>
      obtain rfl := Option.some.inj ho
      have e0 : a'.eval (.tmp 15) = .pointer (some ⟨p, 1, none⟩) := is_tq (hin 9 15 (by kernel_rfl) (by kernel_rfl)) rfl
      exact o_load3 (.tmp 15) rfl _ _ e0 (fits_cell ((unhide HP).kept hk2 (by simp)) 1 _ rfl) ⟨_, rfl, tq_is _ _ _ _ rfl, Kept.refl _ _, fun _ _ _ _ _ => trivial⟩
    | 11, ho, hsk =>
      obtain rfl := Option.some.inj ho
      exact wp_move (.tmp 0) rfl _ ((hout 0 (by kernel_rfl)).trans rfl) ⟨_, rfl, tq_is _ _ _ _ rfl, Kept.refl _ _, fun _ _ _ _ _ => trivial⟩
    | 12, ho, hsk =>
      obtain rfl := Option.some.inj ho
      have e0 : a'.eval (.tmp 17) = P0 b := is_tq (hin 11 17 (by kernel_rfl) (by kernel_rfl)) rfl
      exact o_nil (.tmp 17) rfl _ e0 ⟨_, rfl, tq_is _ _ _ _ rfl, Kept.refl _ _, fun _ _ _ _ _ => trivial⟩
    | 13, ho, hsk =>
      obtain rfl := Option.some.inj ho
      have e0 : a'.eval (.tmp 18) = P0 b := is_tq (hin 12 18 (by kernel_rfl) (by kernel_rfl)) rfl
      exact o_fld68_0 (.tmp 18) rfl b e0 ⟨_, rfl, tq_is _ _ _ _ rfl, Kept.refl _ _, fun _ _ _ _ _ => trivial⟩
    | 14, ho, hsk =>
      obtain rfl := Option.some.inj ho
      have e0 : a'.eval (.tmp 19) = .pointer (some ⟨b, 0, none⟩) := is_tq (hin 13 19 (by kernel_rfl) (by kernel_rfl)) rfl
      exact o_fld66_0 (.tmp 19) rfl b e0 ⟨_, rfl, tq_is _ _ _ _ rfl, Kept.refl _ _, fun _ _ _ _ _ => trivial⟩
    | 15, ho, hsk =>
      obtain rfl := Option.some.inj ho
      have e0 : a'.eval (.tmp 20) = .pointer (some ⟨b, 0, none⟩) := is_tq (hin 14 20 (by kernel_rfl) (by kernel_rfl)) rfl
      exact o_load3 (.tmp 20) rfl _ _ e0 (fits_cell ((unhide HH).kept hk2 (by simp)) 0 _ rfl) ⟨_, rfl, tq_is _ _ _ _ rfl, Kept.refl _ _, fun _ _ _ _ _ => trivial⟩
    | 16, ho, hsk =>
      obtain rfl := Option.some.inj ho
      have e0 : a'.eval (.tmp 16) = .int .i64 d.to := is_tq (hin 10 16 (by kernel_rfl) (by kernel_rfl)) rfl
      have e1 : a'.eval (.tmp 21) = .int .i64 P.me := is_tq (hin 15 21 (by kernel_rfl) (by kernel_rfl)) rfl
      exact o_neqT3 (.tmp 16) (.tmp 21) rfl _ _ true (unhide H2) e0 e1 ⟨_, rfl, tq_is _ _ _ _ rfl, Kept.refl _ _, fun _ _ _ _ _ => trivial⟩
    | 17, ho, hsk =>
      obtain rfl := Option.some.inj ho
      have e0 : a'.eval (.tmp 14) = .bool false := is_tq (hin 8 14 (by kernel_rfl) (by kernel_rfl)) rfl
      have e1 : a'.eval (.tmp 22) = .bool false := is_tq (hin 16 22 (by kernel_rfl) (by kernel_rfl)) rfl
      exact o_pickOr0 (.tmp 14) (.tmp 22) rfl _ e0 e1 ⟨_, rfl, tq_is _ _ _ _ rfl, Kept.refl _ _, fun _ _ _ _ _ => trivial⟩
    | 18, ho, hsk =>
      obtain rfl := Option.some.inj ho
      have e0 : a'.eval (.tmp 23) = .bool false := is_tq (hin 17 23 (by kernel_rfl) (by kernel_rfl)) rfl
      exact wp_move (.tmp 23) rfl _ e0 ⟨_, rfl, tq_is _ _ _ _ rfl, Kept.refl _ _, fun _ _ _ _ _ => trivial⟩
    | 19, ho, hsk =>
      obtain rfl := Option.some.inj ho
      exact o_fld35_2 (.tmp 3) rfl p ((hout 3 (by kernel_rfl)).trans rfl) ⟨_, rfl, tq_is _ _ _ _ rfl, Kept.refl _ _, fun _ _ _ _ _ => trivial⟩
    | 20, ho, hsk =>
      obtain rfl := Option.some.inj ho
      have e0 : a'.eval (.tmp 25) = .pointer (some ⟨p, 2, none⟩) := is_tq (hin 19 25 (by kernel_rfl) (by kernel_rfl)) rfl
      exact o_load2 (.tmp 25) rfl _ _ e0 (fits_cell ((unhide HP).kept hk2 (by simp)) 2 _ rfl) ⟨_, rfl, tq_is _ _ _ _ rfl, Kept.refl _ _, fun _ _ _ _ _ => trivial⟩
    | 21, ho, hsk =>
      obtain rfl := Option.some.inj ho
      exact wp_move (.tmp 0) rfl _ ((hout 0 (by kernel_rfl)).trans rfl) ⟨_, rfl, tq_is _ _ _ _ rfl, Kept.refl _ _, fun _ _ _ _ _ => trivial⟩
    | 22, ho, hsk =>
      obtain rfl := Option.some.inj ho
      have e0 : a'.eval (.tmp 27) = P0 b := is_tq (hin 21 27 (by kernel_rfl) (by kernel_rfl)) rfl
      exact o_nil (.tmp 27) rfl _ e0 ⟨_, rfl, tq_is _ _ _ _ rfl, Kept.refl _ _, fun _ _ _ _ _ => trivial⟩
    | 23, ho, hsk =>
      obtain rfl := Option.some.inj ho
      have e0 : a'.eval (.tmp 28) = P0 b := is_tq (hin 22 28 (by kernel_rfl) (by kernel_rfl)) rfl
      exact o_fld68_0 (.tmp 28) rfl b e0 ⟨_, rfl, tq_is _ _ _ _ rfl, Kept.refl _ _, fun _ _ _ _ _ => trivial⟩
    | 24, ho, hsk =>
      obtain rfl := Option.some.inj ho
      have e0 : a'.eval (.tmp 29) = .pointer (some ⟨b, 0, none⟩) := is_tq (hin 23 29 (by kernel_rfl) (by kernel_rfl)) rfl
      exact o_fld66_2 (.tmp 29) rfl b e0 ⟨_, rfl, tq_is _ _ _ _ rfl, Kept.refl _ _, fun _ _ _ _ _ => trivial⟩
    | 25, ho, hsk =>
      obtain rfl := Option.some.inj ho
      have e0 : a'.eval (.tmp 30) = .pointer (some ⟨b, 2, none⟩) := is_tq (hin 24 30 (by kernel_rfl) (by kernel_rfl)) rfl
      exact o_load2 (.tmp 30) rfl _ _ e0 (fits_cell ((unhide HH).kept hk2 (by simp)) 2 _ rfl) ⟨_, rfl, tq_is _ _ _ _ rfl, Kept.refl _ _, fun _ _ _ _ _ => trivial⟩
    | 26, ho, hsk =>
      obtain rfl := Option.some.inj ho
      have e0 : a'.eval (.tmp 26) = .int .i64 d.vw := is_tq (hin 20 26 (by kernel_rfl) (by kernel_rfl)) rfl
      have e1 : a'.eval (.tmp 31) = .int .i64 P.view := is_tq (hin 25 31 (by kernel_rfl) (by kernel_rfl)) rfl
      exact o_neqT2 (.tmp 26) (.tmp 31) rfl _ _ true (unhide H3) e0 e1 ⟨_, rfl, tq_is _ _ _ _ rfl, Kept.refl _ _, fun _ _ _ _ _ => trivial⟩
    | 27, ho, hsk =>
      obtain rfl := Option.some.inj ho
      have e0 : a'.eval (.tmp 24) = .bool false := is_tq (hin 18 24 (by kernel_rfl) (by kernel_rfl)) rfl
      have e1 : a'.eval (.tmp 32) = .bool false := is_tq (hin 26 32 (by kernel_rfl) (by kernel_rfl)) rfl
      exact o_pickOr0 (.tmp 24) (.tmp 32) rfl _ e0 e1 ⟨_, rfl, tq_is _ _ _ _ rfl, Kept.refl _ _, fun _ _ _ _ _ => trivial⟩
    | 28, ho, hsk =>
      obtain rfl := Option.some.inj ho
      have e0 : a'.eval (.tmp 33) = .bool false := is_tq (hin 27 33 (by kernel_rfl) (by kernel_rfl)) rfl
      exact wp_assignV (.tmp 33) rfl _ e0 ⟨_, rfl, tq_is _ _ _ _ rfl, Kept.refl _ _, fun _ _ _ _ _ => trivial⟩
  intro w9 hk9
  replace hk9 : Kept [] w1 w9 := ⟨hk9.os, hk9.tape, hk9.output, hk9.size, hk9.block⟩
  simp only [valsQ, List.map_cons, List.map_nil, Option.getD_some, List.take_succ_cons, List.take_zero, putAll, Act.put, List.setIfInBounds_toArray, List.set_cons_succ, List.set_cons_zero]
  refine wpAny_done (by kernel_rfl) ?_ _
  replace HS := hide ((unhide HS).kept0 hk9)
  replace HP := hide ((unhide HP).kept hk9 (by simp))
  replace HH := hide (unhide HS).head
  replace HK := hide ((unhide HK).trans hk9)
  clear hk9
  go_wp2_with fail
  refine wp_region_any mixed (wpAny_tq 18 rfl (by kernel_rfl) [some (.pointer (some ⟨p, 3, none⟩)), some (.int .i64 d.seq), some (.bool false), some (.bool true), some (.bool true), none, none, none, none, some (.bool true), some (.bool true), none, none, none, none, none, some (.bool true), some (.bool true)] rfl (by kernel_rfl) (by kernel_rfl) ?_ ?_)
  · intro i o' hi hsk ho a' w2 hout hin hk2
    replace hk2 : Kept [] w9 w2 := ⟨hk2.os, hk2.tape, hk2.output, hk2.size, hk2.block⟩
    match i, ho, hsk with
    | 0, ho, hsk =>
      obtain rfl := Option.some.inj ho
      exact o_fld35_3 (.tmp 3) rfl p ((hout 3 (by kernel_rfl)).trans rfl) ⟨_, rfl, tq_is _ _ _ _ rfl, Kept.refl _ _, fun _ _ _ _ _ => trivial⟩
    | 1, ho, hsk =>
      obtain rfl := Option.some.inj ho
      have e0 : a'.eval (.tmp 35) = .pointer (some ⟨p, 3, none⟩) := is_tq (hin 0 35 (by kernel_rfl) (by kernel_rfl)) rfl
      exact o_load2 (.tmp 35) rfl _ _ e0 (fits_cell ((unhide HP).kept hk2 (by simp)) 3 _ rfl) ⟨_, rfl, tq_is _ _ _ _ rfl, Kept.refl _ _, fun _ _ _ _ _ => trivial⟩
    | 2, ho, hsk =>
      obtain rfl := Option.some.inj ho
      have e0 : a'.eval (.tmp 36) = .int .i64 d.seq := is_tq (hin 1 36 (by kernel_rfl) (by kernel_rfl)) rfl
      refine wp_callF 32 _ _ rfl #[.int .i64 d.seq] (by simp [e0]) (cf32 _ _) ((num32 _ _).mono ?_)
      rintro e w3 ⟨rfl, rfl⟩
      rw [unhide H4]
      exact ⟨_, rfl, _, rfl, tq_is _ _ _ _ rfl, Kept.refl _ _, fun _ _ _ _ _ => trivial⟩
    | 3, ho, hsk =>
      obtain rfl := Option.some.inj ho
      have e0 : a'.eval (.tmp 37) = .bool false := is_tq (hin 2 37 (by kernel_rfl) (by kernel_rfl)) rfl
      exact o_not (.tmp 37) rfl _ e0 ⟨_, rfl, tq_is _ _ _ _ rfl, Kept.refl _ _, fun _ _ _ _ _ => trivial⟩
    | 4, ho, hsk =>
      obtain rfl := Option.some.inj ho
      have e0 : a'.eval (.tmp 38) = .bool true := is_tq (hin 3 38 (by kernel_rfl) (by kernel_rfl)) rfl
      exact wp_move (.tmp 38) rfl _ e0 ⟨_, rfl, tq_is _ _ _ _ rfl, Kept.refl _ _, fun _ _ _ _ _ => trivial⟩
    | 5, ho, hsk =>
      cases hsk
    | 6, ho, hsk =>
      cases hsk
    | 7, ho, hsk =>
      cases hsk
    | 8, ho, hsk =>
      cases hsk
    | 9, ho, hsk =>
      obtain rfl := Option.some.inj ho
      have e0 : a'.eval (.tmp 39) = .bool true := is_tq (hin 4 39 (by kernel_rfl) (by kernel_rfl)) rfl
      exact o_pickOrT (.tmp 39) (.tmp 43) rfl e0 ⟨_, rfl, tq_is _ _ _ _ rfl, Kept.refl _ _, fun _ _ _ _ _ => trivial⟩
    | 10, ho, hsk =>
      obtain rfl := Option.some.inj ho
      have e0 : a'.eval (.tmp 44) = .bool true := is_tq (hin 9 44 (by kernel_rfl) (by kernel_rfl)) rfl
      exact wp_move (.tmp 44) rfl _ e0 ⟨_, rfl, tq_is _ _ _ _ rfl, Kept.refl _ _, fun _ _ _ _ _ => trivial⟩
    | 11, ho, hsk =>
      cases hsk
    | 12, ho, hsk =>
      cases hsk
    | 13, ho, hsk =>
      cases hsk
    | 14, ho, hsk =>
      cases hsk
    | 15, ho, hsk =>
      cases hsk
    | 16, ho, hsk =>
      obtain rfl := Option.some.inj ho
      have e0 : a'.eval (.tmp 45) = .bool true := is_tq (hin 10 45 (by kernel_rfl) (by kernel_rfl)) rfl
      exact o_pickOrT (.tmp 45) (.tmp 50) rfl e0 ⟨_, rfl, tq_is _ _ _ _ rfl, Kept.refl _ _, fun _ _ _ _ _ => trivial⟩
    | 17, ho, hsk =>
      obtain rfl := Option.some.inj ho
      have e0 : a'.eval (.tmp 51) = .bool true := is_tq (hin 16 51 (by kernel_rfl) (by kernel_rfl)) rfl
      exact wp_assignV (.tmp 51) rfl _ e0 ⟨_, rfl, tq_is _ _ _ _ rfl, Kept.refl _ _, fun _ _ _ _ _ => trivial⟩
  intro w8 hk8
  replace hk8 : Kept [] w9 w8 := ⟨hk8.os, hk8.tape, hk8.output, hk8.size, hk8.block⟩
  simp only [valsQ, List.map_cons, List.map_nil, Option.getD_some, Option.getD_none, List.take_succ_cons, List.take_zero, putAll, Act.put, List.setIfInBounds_toArray, List.set_cons_succ, List.set_cons_zero]
  refine wpAny_done (by kernel_rfl) ?_ _
  replace HK := hide ((unhide HK).trans hk8)
  replace HP := hide ((unhide HP).kept hk8 (by simp))
  clear hk8
  go_wp2_with fail
  go_ret
  exact ⟨rfl, unhide HK⟩
set_option maxHeartbeats 2000000 in
theorem no_5 (m : Nat) (b : Nat) (v : Value) (ws : List Value) (P : Ps) (d : Dg) (uo : Option Addr) (uc : Nat) (w : World) (h : Sx w b v ws P) (h1 : decide (d.fr = P.oth) = true) (h2 : decide (d.to = P.me) = true) (h3 : decide (d.vw = P.view) = true) (h4 : numB d.seq = true) (h5 : numB d.ack = false) : Calls Try.prog 38 #[P0 b, aggV (d.C (.slice uo m uc))] w fun e w' => e = .returned (.bool true) ∧ Kept [] w w' := by
  have H1 := hide h1
  have H2 := hide h2
  have H3 := hide h3
  have H4 := hide h4
  have H5 := hide h5
  have HS := hide h
  clear h h1 h2 h3 h4 h5
  go_enter Try.func38, Try.ntmps38
  go_wp2_with (
    first
    | (refine wpBoxV (by rfl) (.tmp 1) (by rfl) (d.C (.slice uo m uc)) (by kernel_rfl) ?_
       intro w1 p e1 B1 K1
       have HP := hide B1
       have HK := hide K1
       replace HS := hide ((unhide HS).kept0 K1)
       clear e1 B1 K1))
  have HH := hide (unhide HS).head
  refine wp_region_any mixed (wpAny_tq 29 rfl (by kernel_rfl) [some (.pointer (some ⟨p, 0, none⟩)), some (.int .i64 d.fr), some (P0 b), some (P0 b), some (.pointer (some ⟨b, 0, none⟩)), some (.pointer (some ⟨b, 1, none⟩)), some (.int .i64 P.oth), some (.bool false), some (.bool false), some (.pointer (some ⟨p, 1, none⟩)), some (.int .i64 d.to), some (P0 b), some (P0 b), some (.pointer (some ⟨b, 0, none⟩)), some (.pointer (some ⟨b, 0, none⟩)), some (.int .i64 P.me), some (.bool false), some (.bool false), some (.bool false), some (.pointer (some ⟨p, 2, none⟩)), some (.int .i64 d.vw), some (P0 b), some (P0 b), some (.pointer (some ⟨b, 0, none⟩)), some (.pointer (some ⟨b, 2, none⟩)), some (.int .i64 P.view), some (.bool false), some (.bool false), some (.bool false)] rfl (by kernel_rfl) (by kernel_rfl) ?_ ?_)
  · intro i o' hi hsk ho a' w2 hout hin hk2
    replace hk2 : Kept [] w1 w2 := ⟨hk2.os, hk2.tape, hk2.output, hk2.size, hk2.block⟩
    match i, ho, hsk with
    | 0, ho, hsk =>
      obtain rfl := Option.some.inj ho
      exact o_fld35_0 (.tmp 3) rfl p ((hout 3 (by kernel_rfl)).trans rfl) ⟨_, rfl, tq_is _ _ _ _ rfl, Kept.refl _ _, fun _ _ _ _ _ => trivial⟩
    | 1, ho, hsk =>
      obtain rfl := Option.some.inj ho
      have e0 : a'.eval (.tmp 6) = .pointer (some ⟨p, 0, none⟩) := is_tq (hin 0 6 (by kernel_rfl) (by kernel_rfl)) rfl
      exact o_load3 (.tmp 6) rfl _ _ e0 (fits_cell ((unhide HP).kept hk2 (by simp)) 0 _ rfl) ⟨_, rfl, tq_is _ _ _ _ rfl, Kept.refl _ _, fun _ _ _ _ _ => trivial⟩
    | 2, ho, hsk =>
      obtain rfl := Option.some.inj ho
      exact wp_move (.tmp 0) rfl _ ((hout 0 (by kernel_rfl)).trans rfl) ⟨_, rfl, tq_is _ _ _ _ rfl, Kept.refl _ _, fun _ _ _ _ _ => trivial⟩
    | 3, ho, hsk =>
      obtain rfl := Option.some.inj ho
      have e0 : a'.eval (.tmp 8) = P0 b := is_tq (hin 2 8 (by kernel_rfl) (by kernel_rfl)) rfl
      exact o_nil (.tmp 8) rfl _ e0 ⟨_, rfl, tq_is _ _ _ _ rfl, Kept.refl _ _, fun _ _ _ _ _ => trivial⟩
    | 4, ho, hsk =>
      obtain rfl := Option.some.inj ho
      have e0 : a'.eval (.tmp 9) = P0 b := is_tq (hin 3 9 (by kernel_rfl) (by kernel_rfl)) rfl
      exact o_fld68_0 (.tmp 9) rfl b e0 ⟨_, rfl, tq_is _ _ _ _ rfl, Kept.refl _ _, fun _ _ _ _ _ => trivial⟩
    | 5, ho, hsk =>
      obtain rfl := Option.some.inj ho
      have e0 : a'.eval (.tmp 10) = .pointer (some ⟨b, 0, none⟩) := is_tq (hin 4 10 (by kernel_rfl) (by kernel_rfl)) rfl
      exact o_fld66_1 (.tmp 10) rfl b e0 ⟨_, rfl, tq_is _ _ _ _ rfl, Kept.refl _ _, fun _ _ _ _ _ => trivial⟩
    | 6, ho, hsk =>
      obtain rfl := Option.some.inj ho
      have e0 : a'.eval (.tmp 11) = .pointer (some ⟨b, 1, none⟩) := is_tq (hin 5 11 (by kernel_rfl) (by kernel_rfl)) rfl
      exact o_load3 (.tmp 11) rfl _ _ e0 (fits_cell ((unhide HH).kept hk2 (by simp)) 1 _ rfl) ⟨_, rfl, tq_is _ _ _ _ rfl, Kept.refl _ _, fun _ _ _ _ _ => trivial⟩
    | 7, ho, hsk =>
      obtain rfl := Option.some.inj ho
      have e0 : a'.eval (.tmp 7) = .int .i64 d.fr := is_tq (hin 1 7 (by kernel_rfl) (by kernel_rfl)) rfl
      have e1 : a'.eval (.tmp 12) = .int .i64 P.oth := is_tq (hin 6 12 (by kernel_rfl) (by kernel_rfl)) rfl
      exact o_neqT3 (.tmp 7) (.tmp 12) rfl _ _ true (unhide H1) e0 e1 ⟨_, rfl, tq_is _ _ _ _ rfl, Kept.refl _ _, fun _ _ _ _ _ => trivial⟩
    | 8, ho, hsk =>
      obtain rfl := Option.some.inj ho
      have e0 : a'.eval (.tmp 13) = .bool false := is_tq (hin 7 13 (by kernel_rfl) (by kernel_rfl)) rfl
      exact wp_move (.tmp 13) rfl _ e0 ⟨_, rfl, tq_is _ _ _ _ rfl, Kept.refl _ _, fun _ _ _ _ _ => trivial⟩
    | 9, ho, hsk =>
      obtain rfl := Option.some.inj ho
      exact o_fld35_1 (.tmp 3) rfl p ((hout 3 (by kernel_rfl)).trans rfl) ⟨_, rfl, tq_is _ _ _ _ rfl, Kept.refl _ _, fun _ _ _ _ _ => trivial⟩
    | 10, ho, hsk =>
      obtain rfl := Option.some.inj ho
      have e0 : a'.eval (.tmp 15) = .pointer (some ⟨p, 1, none⟩) := is_tq (hin 9 15 (by kernel_rfl) (by kernel_rfl)) rfl
      exact o_load3 (.tmp 15) rfl _ _ e0 (fits_cell ((unhide HP).kept hk2 (by simp)) 1 _ rfl) ⟨_, rfl, tq_is _ _ _ _ rfl, Kept.refl _ _, fun _ _ _ _ _ => trivial⟩
    | 11, ho, hsk =>
      obtain rfl := Option.some.inj ho
      exact wp_move (.tmp 0) rfl _ ((hout 0 (by kernel_rfl)).trans rfl) ⟨_, rfl, tq_is _ _ _ _ rfl, Kept.refl _ _, fun _ _ _ _ _ => trivial⟩
    | 12, ho, hsk =>
      obtain rfl := Option.some.inj ho
      have e0 : a'.eval (.tmp 17) = P0 b := is_tq (hin 11 17 (by kernel_rfl) (by kernel_rfl)) rfl
      exact o_nil (.tmp 17) rfl _ e0 ⟨_, rfl, tq_is _ _ _ _ rfl, Kept.refl _ _, fun _ _ _ _ _ => trivial⟩
    | 13, ho, hsk =>
      obtain rfl := Option.some.inj ho
      have e0 : a'.eval (.tmp 18) = P0 b := is_tq (hin 12 18 (by kernel_rfl) (by kernel_rfl)) rfl
      exact o_fld68_0 (.tmp 18) rfl b e0 ⟨_, rfl, tq_is _ _ _ _ rfl, Kept.refl _ _, fun _ _ _ _ _ => trivial⟩
    | 14, ho, hsk =>
      obtain rfl := Option.some.inj ho
      have e0 : a'.eval (.tmp 19) = .pointer (some ⟨b, 0, none⟩) := is_tq (hin 13 19 (by kernel_rfl) (by kernel_rfl)) rfl
      exact o_fld66_0 (.tmp 19) rfl b e0 ⟨_, rfl, tq_is _ _ _ _ rfl, Kept.refl _ _, fun _ _ _ _ _ => trivial⟩
    | 15, ho, hsk =>
      obtain rfl := Option.some.inj ho
      have e0 : a'.eval (.tmp 20) = .pointer (some ⟨b, 0, none⟩) := is_tq (hin 14 20 (by kernel_rfl) (by kernel_rfl)) rfl
      exact o_load3 (.tmp 20) rfl _ _ e0 (fits_cell ((unhide HH).kept hk2 (by simp)) 0 _ rfl) ⟨_, rfl, tq_is _ _ _ _ rfl, Kept.refl _ _, fun _ _ _ _ _ => trivial⟩
    | 16, ho, hsk =>
      obtain rfl := Option.some.inj ho
      have e0 : a'.eval (.tmp 16) = .int .i64 d.to := is_tq (hin 10 16 (by kernel_rfl) (by kernel_rfl)) rfl
      have e1 : a'.eval (.tmp 21) = .int .i64 P.me := is_tq (hin 15 21 (by kernel_rfl) (by kernel_rfl)) rfl
      exact o_neqT3 (.tmp 16) (.tmp 21) rfl _ _ true (unhide H2) e0 e1 ⟨_, rfl, tq_is _ _ _ _ rfl, Kept.refl _ _, fun _ _ _ _ _ => trivial⟩
    | 17, ho, hsk =>
      obtain rfl := Option.some.inj ho
      have e0 : a'.eval (.tmp 14) = .bool false := is_tq (hin 8 14 (by kernel_rfl) (by kernel_rfl)) rfl
      have e1 : a'.eval (.tmp 22) = .bool false := is_tq (hin 16 22 (by kernel_rfl) (by kernel_rfl)) rfl
      exact o_pickOr0 (.tmp 14) (.tmp 22) rfl _ e0 e1 ⟨_, rfl, tq_is _ _ _ _ rfl, Kept.refl _ _, fun _ _ _ _ _ => trivial⟩
    | 18, ho, hsk =>
      obtain rfl := Option.some.inj ho
      have e0 : a'.eval (.tmp 23) = .bool false := is_tq (hin 17 23 (by kernel_rfl) (by kernel_rfl)) rfl
      exact wp_move (.tmp 23) rfl _ e0 ⟨_, rfl, tq_is _ _ _ _ rfl, Kept.refl _ _, fun _ _ _ _ _ => trivial⟩
    | 19, ho, hsk =>
      obtain rfl := Option.some.inj ho
      exact o_fld35_2 (.tmp 3) rfl p ((hout 3 (by kernel_rfl)).trans rfl) ⟨_, rfl, tq_is _ _ _ _ rfl, Kept.refl _ _, fun _ _ _ _ _ => trivial⟩
    | 20, ho, hsk =>
      obtain rfl := Option.some.inj ho
      have e0 : a'.eval (.tmp 25) = .pointer (some ⟨p, 2, none⟩) := is_tq (hin 19 25 (by kernel_rfl) (by kernel_rfl)) rfl
      exact o_load2 (.tmp 25) rfl _ _ e0 (fits_cell ((unhide HP).kept hk2 (by simp)) 2 _ rfl) ⟨_, rfl, tq_is _ _ _ _ rfl, Kept.refl _ _, fun _ _ _ _ _ => trivial⟩
    | 21, ho, hsk =>
      obtain rfl := Option.some.inj ho
      exact wp_move (.tmp 0) rfl _ ((hout 0 (by kernel_rfl)).trans rfl) ⟨_, rfl, tq_is _ _ _ _ rfl, Kept.refl _ _, fun _ _ _ _ _ => trivial⟩
    | 22, ho, hsk =>
      obtain rfl := Option.some.inj ho
      have e0 : a'.eval (.tmp 27) = P0 b := is_tq (hin 21 27 (by kernel_rfl) (by kernel_rfl)) rfl
      exact o_nil (.tmp 27) rfl _ e0 ⟨_, rfl, tq_is _ _ _ _ rfl, Kept.refl _ _, fun _ _ _ _ _ => trivial⟩
    | 23, ho, hsk =>
      obtain rfl := Option.some.inj ho
      have e0 : a'.eval (.tmp 28) = P0 b := is_tq (hin 22 28 (by kernel_rfl) (by kernel_rfl)) rfl
      exact o_fld68_0 (.tmp 28) rfl b e0 ⟨_, rfl, tq_is _ _ _ _ rfl, Kept.refl _ _, fun _ _ _ _ _ => trivial⟩
    | 24, ho, hsk =>
      obtain rfl := Option.some.inj ho
      have e0 : a'.eval (.tmp 29) = .pointer (some ⟨b, 0, none⟩) := is_tq (hin 23 29 (by kernel_rfl) (by kernel_rfl)) rfl
      exact o_fld66_2 (.tmp 29) rfl b e0 ⟨_, rfl, tq_is _ _ _ _ rfl, Kept.refl _ _, fun _ _ _ _ _ => trivial⟩
    | 25, ho, hsk =>
      obtain rfl := Option.some.inj ho
      have e0 : a'.eval (.tmp 30) = .pointer (some ⟨b, 2, none⟩) := is_tq (hin 24 30 (by kernel_rfl) (by kernel_rfl)) rfl
      exact o_load2 (.tmp 30) rfl _ _ e0 (fits_cell ((unhide HH).kept hk2 (by simp)) 2 _ rfl) ⟨_, rfl, tq_is _ _ _ _ rfl, Kept.refl _ _, fun _ _ _ _ _ => trivial⟩
    | 26, ho, hsk =>
      obtain rfl := Option.some.inj ho
      have e0 : a'.eval (.tmp 26) = .int .i64 d.vw := is_tq (hin 20 26 (by kernel_rfl) (by kernel_rfl)) rfl
      have e1 : a'.eval (.tmp 31) = .int .i64 P.view := is_tq (hin 25 31 (by kernel_rfl) (by kernel_rfl)) rfl
      exact o_neqT2 (.tmp 26) (.tmp 31) rfl _ _ true (unhide H3) e0 e1 ⟨_, rfl, tq_is _ _ _ _ rfl, Kept.refl _ _, fun _ _ _ _ _ => trivial⟩
    | 27, ho, hsk =>
      obtain rfl := Option.some.inj ho
      have e0 : a'.eval (.tmp 24) = .bool false := is_tq (hin 18 24 (by kernel_rfl) (by kernel_rfl)) rfl
      have e1 : a'.eval (.tmp 32) = .bool false := is_tq (hin 26 32 (by kernel_rfl) (by kernel_rfl)) rfl
      exact o_pickOr0 (.tmp 24) (.tmp 32) rfl _ e0 e1 ⟨_, rfl, tq_is _ _ _ _ rfl, Kept.refl _ _, fun _ _ _ _ _ => trivial⟩
    | 28, ho, hsk =>
      obtain rfl := Option.some.inj ho
      have e0 : a'.eval (.tmp 33) = .bool false := is_tq (hin 27 33 (by kernel_rfl) (by kernel_rfl)) rfl
      exact wp_assignV (.tmp 33) rfl _ e0 ⟨_, rfl, tq_is _ _ _ _ rfl, Kept.refl _ _, fun _ _ _ _ _ => trivial⟩
  intro w9 hk9
  replace hk9 : Kept [] w1 w9 := ⟨hk9.os, hk9.tape, hk9.output, hk9.size, hk9.block⟩
  simp only [valsQ, List.map_cons, List.map_nil, Option.getD_some, List.take_succ_cons, List.take_zero, putAll, Act.put, List.setIfInBounds_toArray, List.set_cons_succ, List.set_cons_zero]
  refine wpAny_done (by kernel_rfl) ?_ _
  replace HS := hide ((unhide HS).kept0 hk9)
  replace HP := hide ((unhide HP).kept hk9 (by simp))
  replace HH := hide (unhide HS).head
  replace HK := hide ((unhide HK).trans hk9)
  clear hk9
  go_wp2_with fail
  refine wp_region_any mixed (wpAny_tq 18 rfl (by kernel_rfl) [some (.pointer (some ⟨p, 3, none⟩)), some (.int .i64 d.seq), some (.bool true), some (.bool false), some (.bool false), some (.pointer (some ⟨p, 4, none⟩)), some (.int .i64 d.ack), some (.bool false), some (.bool true), some (.bool true), some (.bool true), none, none, none, none, none, some (.bool true), some (.bool true)] rfl (by kernel_rfl) (by kernel_rfl) ?_ ?_)
  · intro i o' hi hsk ho a' w2 hout hin hk2
    replace hk2 : Kept [] w9 w2 := ⟨hk2.os, hk2.tape, hk2.output, hk2.size, hk2.block⟩
    match i, ho, hsk with
    | 0, ho, hsk =>
      obtain rfl := Option.some.inj ho
      exact o_fld35_3 (.tmp 3) rfl p ((hout 3 (by kernel_rfl)).trans rfl) ⟨_, rfl, tq_is _ _ _ _ rfl, Kept.refl _ _, fun _ _ _ _ _ => trivial⟩
    | 1, ho, hsk =>
      obtain rfl := Option.some.inj ho
      have e0 : a'.eval (.tmp 35) = .pointer (some ⟨p, 3, none⟩) := is_tq (hin 0 35 (by kernel_rfl) (by kernel_rfl)) rfl
      exact o_load2 (.tmp 35) rfl _ _ e0 (fits_cell ((unhide HP).kept hk2 (by simp)) 3 _ rfl) ⟨_, rfl, tq_is _ _ _ _ rfl, Kept.refl _ _, fun _ _ _ _ _ => trivial⟩
    | 2, ho, hsk =>
      obtain rfl := Option.some.inj ho
      have e0 : a'.eval (.tmp 36) = .int .i64 d.seq := is_tq (hin 1 36 (by kernel_rfl) (by kernel_rfl)) rfl
      refine wp_callF 32 _ _ rfl #[.int .i64 d.seq] (by simp [e0]) (cf32 _ _) ((num32 _ _).mono ?_)
      rintro e w3 ⟨rfl, rfl⟩
      rw [unhide H4]
      exact ⟨_, rfl, _, rfl, tq_is _ _ _ _ rfl, Kept.refl _ _, fun _ _ _ _ _ => trivial⟩
    | 3, ho, hsk =>
      obtain rfl := Option.some.inj ho
      have e0 : a'.eval (.tmp 37) = .bool true := is_tq (hin 2 37 (by kernel_rfl) (by kernel_rfl)) rfl
      exact o_not (.tmp 37) rfl _ e0 ⟨_, rfl, tq_is _ _ _ _ rfl, Kept.refl _ _, fun _ _ _ _ _ => trivial⟩
    | 4, ho, hsk =>
      obtain rfl := Option.some.inj ho
      have e0 : a'.eval (.tmp 38) = .bool false := is_tq (hin 3 38 (by kernel_rfl) (by kernel_rfl)) rfl
      exact wp_move (.tmp 38) rfl _ e0 ⟨_, rfl, tq_is _ _ _ _ rfl, Kept.refl _ _, fun _ _ _ _ _ => trivial⟩
    | 5, ho, hsk =>
      obtain rfl := Option.some.inj ho
      exact o_fld35_4 (.tmp 3) rfl p ((hout 3 (by kernel_rfl)).trans rfl) ⟨_, rfl, tq_is _ _ _ _ rfl, Kept.refl _ _, fun _ _ _ _ _ => trivial⟩
    | 6, ho, hsk =>
      obtain rfl := Option.some.inj ho
      have e0 : a'.eval (.tmp 40) = .pointer (some ⟨p, 4, none⟩) := is_tq (hin 5 40 (by kernel_rfl) (by kernel_rfl)) rfl
      exact o_load2 (.tmp 40) rfl _ _ e0 (fits_cell ((unhide HP).kept hk2 (by simp)) 4 _ rfl) ⟨_, rfl, tq_is _ _ _ _ rfl, Kept.refl _ _, fun _ _ _ _ _ => trivial⟩
    | 7, ho, hsk =>
      obtain rfl := Option.some.inj ho
      have e0 : a'.eval (.tmp 41) = .int .i64 d.ack := is_tq (hin 6 41 (by kernel_rfl) (by kernel_rfl)) rfl
      refine wp_callF 32 _ _ rfl #[.int .i64 d.ack] (by simp [e0]) (cf32 _ _) ((num32 _ _).mono ?_)
      rintro e w3 ⟨rfl, rfl⟩
      rw [unhide H5]
      exact ⟨_, rfl, _, rfl, tq_is _ _ _ _ rfl, Kept.refl _ _, fun _ _ _ _ _ => trivial⟩
    | 8, ho, hsk =>
      obtain rfl := Option.some.inj ho
      have e0 : a'.eval (.tmp 42) = .bool false := is_tq (hin 7 42 (by kernel_rfl) (by kernel_rfl)) rfl
      exact o_not (.tmp 42) rfl _ e0 ⟨_, rfl, tq_is _ _ _ _ rfl, Kept.refl _ _, fun _ _ _ _ _ => trivial⟩
    | 9, ho, hsk =>
      obtain rfl := Option.some.inj ho
      have e0 : a'.eval (.tmp 39) = .bool false := is_tq (hin 4 39 (by kernel_rfl) (by kernel_rfl)) rfl
      have e1 : a'.eval (.tmp 43) = .bool true := is_tq (hin 8 43 (by kernel_rfl) (by kernel_rfl)) rfl
      exact o_pickOr0 (.tmp 39) (.tmp 43) rfl _ e0 e1 ⟨_, rfl, tq_is _ _ _ _ rfl, Kept.refl _ _, fun _ _ _ _ _ => trivial⟩
    | 10, ho, hsk =>
      obtain rfl := Option.some.inj ho
      have e0 : a'.eval (.tmp 44) = .bool true := is_tq (hin 9 44 (by kernel_rfl) (by kernel_rfl)) rfl
      exact wp_move (.tmp 44) rfl _ e0 ⟨_, rfl, tq_is _ _ _ _ rfl, Kept.refl _ _, fun _ _ _ _ _ => trivial⟩
    | 11, ho, hsk =>
      cases hsk
    | 12, ho, hsk =>
      cases hsk
    | 13, ho, hsk =>
      cases hsk
    | 14, ho, hsk =>
      cases hsk
    | 15, ho, hsk =>
      cases hsk
    | 16, ho, hsk =>
      obtain rfl := Option.some.inj ho
      have e0 : a'.eval (.tmp 45) = .bool true := is_tq (hin 10 45 (by kernel_rfl) (by kernel_rfl)) rfl
      exact o_pickOrT (.tmp 45) (.tmp 50) rfl e0 ⟨_, rfl, tq_is _ _ _ _ rfl, Kept.refl _ _, fun _ _ _ _ _ => trivial⟩
    | 17, ho, hsk =>
      obtain rfl := Option.some.inj ho
      have e0 : a'.eval (.tmp 51) = .bool true := is_tq (hin 16 51 (by kernel_rfl) (by kernel_rfl)) rfl
      exact wp_assignV (.tmp 51) rfl _ e0 ⟨_, rfl, tq_is _ _ _ _ rfl, Kept.refl _ _, fun _ _ _ _ _ => trivial⟩
  intro w8 hk8
  replace hk8 : Kept [] w9 w8 := ⟨hk8.os, hk8.tape, hk8.output, hk8.size, hk8.block⟩
  simp only [valsQ, List.map_cons, List.map_nil, Option.getD_some, Option.getD_none, List.take_succ_cons, List.take_zero, putAll, Act.put, List.setIfInBounds_toArray, List.set_cons_succ, List.set_cons_zero]
  refine wpAny_done (by kernel_rfl) ?_ _
  replace HK := hide ((unhide HK).trans hk8)
  replace HP := hide ((unhide HP).kept hk8 (by simp))
  clear hk8
  go_wp2_with fail
  go_ret
  exact ⟨rfl, unhide HK⟩
set_option maxHeartbeats 2000000 in
theorem no_6 (m : Nat) (b : Nat) (v : Value) (ws : List Value) (P : Ps) (d : Dg) (uo : Option Addr) (uc : Nat) (w : World) (h : Sx w b v ws P) (h1 : decide (d.fr = P.oth) = true) (h2 : decide (d.to = P.me) = true) (h3 : decide (d.vw = P.view) = true) (h4 : numB d.seq = true) (h5 : numB d.ack = true) (h6 : decide ((P.sent.length : Int) < d.ack) = true) : Calls Try.prog 38 #[P0 b, aggV (d.C (.slice uo m uc))] w fun e w' => e = .returned (.bool true) ∧ Kept [] w w' := by
  have H1 := hide h1
  have H2 := hide h2
  have H3 := hide h3
  have H4 := hide h4
  have H5 := hide h5
  have H6 := hide h6
  have HS := hide h
  clear h h1 h2 h3 h4 h5 h6
  go_enter Try.func38, Try.ntmps38
  go_wp2_with (
    first
    | (refine wpBoxV (by rfl) (.tmp 1) (by rfl) (d.C (.slice uo m uc)) (by kernel_rfl) ?_
       intro w1 p e1 B1 K1
       have HP := hide B1
       have HK := hide K1
       replace HS := hide ((unhide HS).kept0 K1)
       clear e1 B1 K1))
  have HH := hide (unhide HS).head
  refine wp_region_any mixed (wpAny_tq 29 rfl (by kernel_rfl) [some (.pointer (some ⟨p, 0, none⟩)), some (.int .i64 d.fr), some (P0 b), some (P0 b), some (.pointer (some ⟨b, 0, none⟩)), some (.pointer (some ⟨b, 1, none⟩)), some (.int .i64 P.oth), some (.bool false), some (.bool false), some (.pointer (some ⟨p, 1, none⟩)), some (.int .i64 d.to), some (P0 b), some (P0 b), some (.pointer (some ⟨b, 0, none⟩)), some (.pointer (some ⟨b, 0, none⟩)), some (.int .i64 P.me), some (.bool false), some (.bool false), some (.bool false), some (.pointer (some ⟨p, 2, none⟩)), some (.int .i64 d.vw), some (P0 b), some (P0 b), some (.pointer (some ⟨b, 0, none⟩)), some (.pointer (some ⟨b, 2, none⟩)), some (.int .i64 P.view), some (.bool false), some (.bool false), some (.bool false)] rfl (by kernel_rfl) (by kernel_rfl) ?_ ?_)
  · intro i o' hi hsk ho a' w2 hout hin hk2
    replace hk2 : Kept [] w1 w2 := ⟨hk2.os, hk2.tape, hk2.output, hk2.size, hk2.block⟩
    match i, ho, hsk with
    | 0, ho, hsk =>
      obtain rfl := Option.some.inj ho
      exact o_fld35_0 (.tmp 3) rfl p ((hout 3 (by kernel_rfl)).trans rfl) ⟨_, rfl, tq_is _ _ _ _ rfl, Kept.refl _ _, fun _ _ _ _ _ => trivial⟩
    | 1, ho, hsk =>
      obtain rfl := Option.some.inj ho
      have e0 : a'.eval (.tmp 6) = .pointer (some ⟨p, 0, none⟩) := is_tq (hin 0 6 (by kernel_rfl) (by kernel_rfl)) rfl
      exact o_load3 (.tmp 6) rfl _ _ e0 (fits_cell ((unhide HP).kept hk2 (by simp)) 0 _ rfl) ⟨_, rfl, tq_is _ _ _ _ rfl, Kept.refl _ _, fun _ _ _ _ _ => trivial⟩
    | 2, ho, hsk =>
      obtain rfl := Option.some.inj ho
      exact wp_move (.tmp 0) rfl _ ((hout 0 (by kernel_rfl)).trans rfl) ⟨_, rfl, tq_is _ _ _ _ rfl, Kept.refl _ _, fun _ _ _ _ _ => trivial⟩
    | 3, ho, hsk =>
      obtain rfl := Option.some.inj ho
      have e0 : a'.eval (.tmp 8) = P0 b := is_tq (hin 2 8 (by kernel_rfl) (by kernel_rfl)) rfl
      exact o_nil (.tmp 8) rfl _ e0 ⟨_, rfl, tq_is _ _ _ _ rfl, Kept.refl _ _, fun _ _ _ _ _ => trivial⟩
    | 4, ho, hsk =>
      obtain rfl := Option.some.inj ho
      have e0 : a'.eval (.tmp 9) = P0 b := is_tq (hin 3 9 (by kernel_rfl) (by kernel_rfl)) rfl
      exact o_fld68_0 (.tmp 9) rfl b e0 ⟨_, rfl, tq_is _ _ _ _ rfl, Kept.refl _ _, fun _ _ _ _ _ => trivial⟩
    | 5, ho, hsk =>
      obtain rfl := Option.some.inj ho
      have e0 : a'.eval (.tmp 10) = .pointer (some ⟨b, 0, none⟩) := is_tq (hin 4 10 (by kernel_rfl) (by kernel_rfl)) rfl
      exact o_fld66_1 (.tmp 10) rfl b e0 ⟨_, rfl, tq_is _ _ _ _ rfl, Kept.refl _ _, fun _ _ _ _ _ => trivial⟩
    | 6, ho, hsk =>
      obtain rfl := Option.some.inj ho
      have e0 : a'.eval (.tmp 11) = .pointer (some ⟨b, 1, none⟩) := is_tq (hin 5 11 (by kernel_rfl) (by kernel_rfl)) rfl
      exact o_load3 (.tmp 11) rfl _ _ e0 (fits_cell ((unhide HH).kept hk2 (by simp)) 1 _ rfl) ⟨_, rfl, tq_is _ _ _ _ rfl, Kept.refl _ _, fun _ _ _ _ _ => trivial⟩
    | 7, ho, hsk =>
      obtain rfl := Option.some.inj ho
      have e0 : a'.eval (.tmp 7) = .int .i64 d.fr := is_tq (hin 1 7 (by kernel_rfl) (by kernel_rfl)) rfl
      have e1 : a'.eval (.tmp 12) = .int .i64 P.oth := is_tq (hin 6 12 (by kernel_rfl) (by kernel_rfl)) rfl
      exact o_neqT3 (.tmp 7) (.tmp 12) rfl _ _ true (unhide H1) e0 e1 ⟨_, rfl, tq_is _ _ _ _ rfl, Kept.refl _ _, fun _ _ _ _ _ => trivial⟩
    | 8, ho, hsk =>
      obtain rfl := Option.some.inj ho
      have e0 : a'.eval (.tmp 13) = .bool false := is_tq (hin 7 13 (by kernel_rfl) (by kernel_rfl)) rfl
      exact wp_move (.tmp 13) rfl _ e0 ⟨_, rfl, tq_is _ _ _ _ rfl, Kept.refl _ _, fun _ _ _ _ _ => trivial⟩
    | 9, ho, hsk =>
      obtain rfl := Option.some.inj ho
      exact o_fld35_1 (.tmp 3) rfl p ((hout 3 (by kernel_rfl)).trans rfl) ⟨_, rfl, tq_is _ _ _ _ rfl, Kept.refl _ _, fun _ _ _ _ _ => trivial⟩
    | 10, ho, hsk =>
      obtain rfl := Option.some.inj ho
      have e0 : a'.eval (.tmp 15) = .pointer (some ⟨p, 1, none⟩) := is_tq (hin 9 15 (by kernel_rfl) (by kernel_rfl)) rfl
      exact o_load3 (.tmp 15) rfl _ _ e0 (fits_cell ((unhide HP).kept hk2 (by simp)) 1 _ rfl) ⟨_, rfl, tq_is _ _ _ _ rfl, Kept.refl _ _, fun _ _ _ _ _ => trivial⟩
    | 11, ho, hsk =>
      obtain rfl := Option.some.inj ho
      exact wp_move (.tmp 0) rfl _ ((hout 0 (by kernel_rfl)).trans rfl) ⟨_, rfl, tq_is _ _ _ _ rfl, Kept.refl _ _, fun _ _ _ _ _ => trivial⟩
    | 12, ho, hsk =>
      obtain rfl := Option.some.inj ho
      have e0 : a'.eval (.tmp 17) = P0 b := is_tq (hin 11 17 (by kernel_rfl) (by kernel_rfl)) rfl
      exact o_nil (.tmp 17) rfl _ e0 ⟨_, rfl, tq_is _ _ _ _ rfl, Kept.refl _ _, fun _ _ _ _ _ => trivial⟩
    | 13, ho, hsk =>
      obtain rfl := Option.some.inj ho
      have e0 : a'.eval (.tmp 18) = P0 b := is_tq (hin 12 18 (by kernel_rfl) (by kernel_rfl)) rfl
      exact o_fld68_0 (.tmp 18) rfl b e0 ⟨_, rfl, tq_is _ _ _ _ rfl, Kept.refl _ _, fun _ _ _ _ _ => trivial⟩
    | 14, ho, hsk =>
      obtain rfl := Option.some.inj ho
      have e0 : a'.eval (.tmp 19) = .pointer (some ⟨b, 0, none⟩) := is_tq (hin 13 19 (by kernel_rfl) (by kernel_rfl)) rfl
      exact o_fld66_0 (.tmp 19) rfl b e0 ⟨_, rfl, tq_is _ _ _ _ rfl, Kept.refl _ _, fun _ _ _ _ _ => trivial⟩
    | 15, ho, hsk =>
      obtain rfl := Option.some.inj ho
      have e0 : a'.eval (.tmp 20) = .pointer (some ⟨b, 0, none⟩) := is_tq (hin 14 20 (by kernel_rfl) (by kernel_rfl)) rfl
      exact o_load3 (.tmp 20) rfl _ _ e0 (fits_cell ((unhide HH).kept hk2 (by simp)) 0 _ rfl) ⟨_, rfl, tq_is _ _ _ _ rfl, Kept.refl _ _, fun _ _ _ _ _ => trivial⟩
    | 16, ho, hsk =>
      obtain rfl := Option.some.inj ho
      have e0 : a'.eval (.tmp 16) = .int .i64 d.to := is_tq (hin 10 16 (by kernel_rfl) (by kernel_rfl)) rfl
      have e1 : a'.eval (.tmp 21) = .int .i64 P.me := is_tq (hin 15 21 (by kernel_rfl) (by kernel_rfl)) rfl
      exact o_neqT3 (.tmp 16) (.tmp 21) rfl _ _ true (unhide H2) e0 e1 ⟨_, rfl, tq_is _ _ _ _ rfl, Kept.refl _ _, fun _ _ _ _ _ => trivial⟩
    | 17, ho, hsk =>
      obtain rfl := Option.some.inj ho
      have e0 : a'.eval (.tmp 14) = .bool false := is_tq (hin 8 14 (by kernel_rfl) (by kernel_rfl)) rfl
      have e1 : a'.eval (.tmp 22) = .bool false := is_tq (hin 16 22 (by kernel_rfl) (by kernel_rfl)) rfl
      exact o_pickOr0 (.tmp 14) (.tmp 22) rfl _ e0 e1 ⟨_, rfl, tq_is _ _ _ _ rfl, Kept.refl _ _, fun _ _ _ _ _ => trivial⟩
    | 18, ho, hsk =>
      obtain rfl := Option.some.inj ho
      have e0 : a'.eval (.tmp 23) = .bool false := is_tq (hin 17 23 (by kernel_rfl) (by kernel_rfl)) rfl
      exact wp_move (.tmp 23) rfl _ e0 ⟨_, rfl, tq_is _ _ _ _ rfl, Kept.refl _ _, fun _ _ _ _ _ => trivial⟩
    | 19, ho, hsk =>
      obtain rfl := Option.some.inj ho
      exact o_fld35_2 (.tmp 3) rfl p ((hout 3 (by kernel_rfl)).trans rfl) ⟨_, rfl, tq_is _ _ _ _ rfl, Kept.refl _ _, fun _ _ _ _ _ => trivial⟩
    | 20, ho, hsk =>
      obtain rfl := Option.some.inj ho
      have e0 : a'.eval (.tmp 25) = .pointer (some ⟨p, 2, none⟩) := is_tq (hin 19 25 (by kernel_rfl) (by kernel_rfl)) rfl
      exact o_load2 (.tmp 25) rfl _ _ e0 (fits_cell ((unhide HP).kept hk2 (by simp)) 2 _ rfl) ⟨_, rfl, tq_is _ _ _ _ rfl, Kept.refl _ _, fun _ _ _ _ _ => trivial⟩
    | 21, ho, hsk =>
      obtain rfl := Option.some.inj ho
      exact wp_move (.tmp 0) rfl _ ((hout 0 (by kernel_rfl)).trans rfl) ⟨_, rfl, tq_is _ _ _ _ rfl, Kept.refl _ _, fun _ _ _ _ _ => trivial⟩
    | 22, ho, hsk =>
      obtain rfl := Option.some.inj ho
      have e0 : a'.eval (.tmp 27) = P0 b := is_tq (hin 21 27 (by kernel_rfl) (by kernel_rfl)) rfl
      exact o_nil (.tmp 27) rfl _ e0 ⟨_, rfl, tq_is _ _ _ _ rfl, Kept.refl _ _, fun _ _ _ _ _ => trivial⟩
    | 23, ho, hsk =>
      obtain rfl := Option.some.inj ho
      have e0 : a'.eval (.tmp 28) = P0 b := is_tq (hin 22 28 (by kernel_rfl) (by kernel_rfl)) rfl
      exact o_fld68_0 (.tmp 28) rfl b e0 ⟨_, rfl, tq_is _ _ _ _ rfl, Kept.refl _ _, fun _ _ _ _ _ => trivial⟩
    | 24, ho, hsk =>
      obtain rfl := Option.some.inj ho
      have e0 : a'.eval (.tmp 29) = .pointer (some ⟨b, 0, none⟩) := is_tq (hin 23 29 (by kernel_rfl) (by kernel_rfl)) rfl
      exact o_fld66_2 (.tmp 29) rfl b e0 ⟨_, rfl, tq_is _ _ _ _ rfl, Kept.refl _ _, fun _ _ _ _ _ => trivial⟩
    | 25, ho, hsk =>
      obtain rfl := Option.some.inj ho
      have e0 : a'.eval (.tmp 30) = .pointer (some ⟨b, 2, none⟩) := is_tq (hin 24 30 (by kernel_rfl) (by kernel_rfl)) rfl
      exact o_load2 (.tmp 30) rfl _ _ e0 (fits_cell ((unhide HH).kept hk2 (by simp)) 2 _ rfl) ⟨_, rfl, tq_is _ _ _ _ rfl, Kept.refl _ _, fun _ _ _ _ _ => trivial⟩
    | 26, ho, hsk =>
      obtain rfl := Option.some.inj ho
      have e0 : a'.eval (.tmp 26) = .int .i64 d.vw := is_tq (hin 20 26 (by kernel_rfl) (by kernel_rfl)) rfl
      have e1 : a'.eval (.tmp 31) = .int .i64 P.view := is_tq (hin 25 31 (by kernel_rfl) (by kernel_rfl)) rfl
      exact o_neqT2 (.tmp 26) (.tmp 31) rfl _ _ true (unhide H3) e0 e1 ⟨_, rfl, tq_is _ _ _ _ rfl, Kept.refl _ _, fun _ _ _ _ _ => trivial⟩
    | 27, ho, hsk =>
      obtain rfl := Option.some.inj ho
      have e0 : a'.eval (.tmp 24) = .bool false := is_tq (hin 18 24 (by kernel_rfl) (by kernel_rfl)) rfl
      have e1 : a'.eval (.tmp 32) = .bool false := is_tq (hin 26 32 (by kernel_rfl) (by kernel_rfl)) rfl
      exact o_pickOr0 (.tmp 24) (.tmp 32) rfl _ e0 e1 ⟨_, rfl, tq_is _ _ _ _ rfl, Kept.refl _ _, fun _ _ _ _ _ => trivial⟩
    | 28, ho, hsk =>
      obtain rfl := Option.some.inj ho
      have e0 : a'.eval (.tmp 33) = .bool false := is_tq (hin 27 33 (by kernel_rfl) (by kernel_rfl)) rfl
      exact wp_assignV (.tmp 33) rfl _ e0 ⟨_, rfl, tq_is _ _ _ _ rfl, Kept.refl _ _, fun _ _ _ _ _ => trivial⟩
  intro w9 hk9
  replace hk9 : Kept [] w1 w9 := ⟨hk9.os, hk9.tape, hk9.output, hk9.size, hk9.block⟩
  simp only [valsQ, List.map_cons, List.map_nil, Option.getD_some, List.take_succ_cons, List.take_zero, putAll, Act.put, List.setIfInBounds_toArray, List.set_cons_succ, List.set_cons_zero]
  refine wpAny_done (by kernel_rfl) ?_ _
  replace HS := hide ((unhide HS).kept0 hk9)
  replace HP := hide ((unhide HP).kept hk9 (by simp))
  replace HH := hide (unhide HS).head
  replace HK := hide ((unhide HK).trans hk9)
  clear hk9
  go_wp2_with fail
  refine wp_region_any mixed (wpAny_tq 18 rfl (by kernel_rfl) [some (.pointer (some ⟨p, 3, none⟩)), some (.int .i64 d.seq), some (.bool true), some (.bool false), some (.bool false), some (.pointer (some ⟨p, 4, none⟩)), some (.int .i64 d.ack), some (.bool true), some (.bool false), some (.bool false), some (.bool false), some (.pointer (some ⟨p, 4, none⟩)), some (.int .i64 d.ack), some (P0 b), some (.int .i64 P.sent.length), some (.bool true), some (.bool true), some (.bool true)] rfl (by kernel_rfl) (by kernel_rfl) ?_ ?_)
  · intro i o' hi hsk ho a' w2 hout hin hk2
    replace hk2 : Kept [] w9 w2 := ⟨hk2.os, hk2.tape, hk2.output, hk2.size, hk2.block⟩
    match i, ho, hsk with
    | 0, ho, hsk =>
      obtain rfl := Option.some.inj ho
      exact o_fld35_3 (.tmp 3) rfl p ((hout 3 (by kernel_rfl)).trans rfl) ⟨_, rfl, tq_is _ _ _ _ rfl, Kept.refl _ _, fun _ _ _ _ _ => trivial⟩
    | 1, ho, hsk =>
      obtain rfl := Option.some.inj ho
      have e0 : a'.eval (.tmp 35) = .pointer (some ⟨p, 3, none⟩) := is_tq (hin 0 35 (by kernel_rfl) (by kernel_rfl)) rfl
      exact o_load2 (.tmp 35) rfl _ _ e0 (fits_cell ((unhide HP).kept hk2 (by simp)) 3 _ rfl) ⟨_, rfl, tq_is _ _ _ _ rfl, Kept.refl _ _, fun _ _ _ _ _ => trivial⟩
    | 2, ho, hsk =>
      obtain rfl := Option.some.inj ho
      have e0 : a'.eval (.tmp 36) = .int .i64 d.seq := is_tq (hin 1 36 (by kernel_rfl) (by kernel_rfl)) rfl
      refine wp_callF 32 _ _ rfl #[.int .i64 d.seq] (by simp [e0]) (cf32 _ _) ((num32 _ _).mono ?_)
      rintro e w3 ⟨rfl, rfl⟩
      rw [unhide H4]
      exact ⟨_, rfl, _, rfl, tq_is _ _ _ _ rfl, Kept.refl _ _, fun _ _ _ _ _ => trivial⟩
    | 3, ho, hsk =>
      obtain rfl := Option.some.inj ho
      have e0 : a'.eval (.tmp 37) = .bool true := is_tq (hin 2 37 (by kernel_rfl) (by kernel_rfl)) rfl
      exact o_not (.tmp 37) rfl _ e0 ⟨_, rfl, tq_is _ _ _ _ rfl, Kept.refl _ _, fun _ _ _ _ _ => trivial⟩
    | 4, ho, hsk =>
      obtain rfl := Option.some.inj ho
      have e0 : a'.eval (.tmp 38) = .bool false := is_tq (hin 3 38 (by kernel_rfl) (by kernel_rfl)) rfl
      exact wp_move (.tmp 38) rfl _ e0 ⟨_, rfl, tq_is _ _ _ _ rfl, Kept.refl _ _, fun _ _ _ _ _ => trivial⟩
    | 5, ho, hsk =>
      obtain rfl := Option.some.inj ho
      exact o_fld35_4 (.tmp 3) rfl p ((hout 3 (by kernel_rfl)).trans rfl) ⟨_, rfl, tq_is _ _ _ _ rfl, Kept.refl _ _, fun _ _ _ _ _ => trivial⟩
    | 6, ho, hsk =>
      obtain rfl := Option.some.inj ho
      have e0 : a'.eval (.tmp 40) = .pointer (some ⟨p, 4, none⟩) := is_tq (hin 5 40 (by kernel_rfl) (by kernel_rfl)) rfl
      exact o_load2 (.tmp 40) rfl _ _ e0 (fits_cell ((unhide HP).kept hk2 (by simp)) 4 _ rfl) ⟨_, rfl, tq_is _ _ _ _ rfl, Kept.refl _ _, fun _ _ _ _ _ => trivial⟩
    | 7, ho, hsk =>
      obtain rfl := Option.some.inj ho
      have e0 : a'.eval (.tmp 41) = .int .i64 d.ack := is_tq (hin 6 41 (by kernel_rfl) (by kernel_rfl)) rfl
      refine wp_callF 32 _ _ rfl #[.int .i64 d.ack] (by simp [e0]) (cf32 _ _) ((num32 _ _).mono ?_)
      rintro e w3 ⟨rfl, rfl⟩
      rw [unhide H5]
      exact ⟨_, rfl, _, rfl, tq_is _ _ _ _ rfl, Kept.refl _ _, fun _ _ _ _ _ => trivial⟩
    | 8, ho, hsk =>
      obtain rfl := Option.some.inj ho
      have e0 : a'.eval (.tmp 42) = .bool true := is_tq (hin 7 42 (by kernel_rfl) (by kernel_rfl)) rfl
      exact o_not (.tmp 42) rfl _ e0 ⟨_, rfl, tq_is _ _ _ _ rfl, Kept.refl _ _, fun _ _ _ _ _ => trivial⟩
    | 9, ho, hsk =>
      obtain rfl := Option.some.inj ho
      have e0 : a'.eval (.tmp 39) = .bool false := is_tq (hin 4 39 (by kernel_rfl) (by kernel_rfl)) rfl
      have e1 : a'.eval (.tmp 43) = .bool false := is_tq (hin 8 43 (by kernel_rfl) (by kernel_rfl)) rfl
      exact o_pickOr0 (.tmp 39) (.tmp 43) rfl _ e0 e1 ⟨_, rfl, tq_is _ _ _ _ rfl, Kept.refl _ _, fun _ _ _ _ _ => trivial⟩
    | 10, ho, hsk =>
      obtain rfl := Option.some.inj ho
      have e0 : a'.eval (.tmp 44) = .bool false := is_tq (hin 9 44 (by kernel_rfl) (by kernel_rfl)) rfl
      exact wp_move (.tmp 44) rfl _ e0 ⟨_, rfl, tq_is _ _ _ _ rfl, Kept.refl _ _, fun _ _ _ _ _ => trivial⟩
    | 11, ho, hsk =>
      obtain rfl := Option.some.inj ho
      exact o_fld35_4 (.tmp 3) rfl p ((hout 3 (by kernel_rfl)).trans rfl) ⟨_, rfl, tq_is _ _ _ _ rfl, Kept.refl _ _, fun _ _ _ _ _ => trivial⟩
    | 12, ho, hsk =>
      obtain rfl := Option.some.inj ho
      have e0 : a'.eval (.tmp 46) = .pointer (some ⟨p, 4, none⟩) := is_tq (hin 11 46 (by kernel_rfl) (by kernel_rfl)) rfl
      exact o_load2 (.tmp 46) rfl _ _ e0 (fits_cell ((unhide HP).kept hk2 (by simp)) 4 _ rfl) ⟨_, rfl, tq_is _ _ _ _ rfl, Kept.refl _ _, fun _ _ _ _ _ => trivial⟩
    | 13, ho, hsk =>
      obtain rfl := Option.some.inj ho
      exact wp_move (.tmp 0) rfl _ ((hout 0 (by kernel_rfl)).trans rfl) ⟨_, rfl, tq_is _ _ _ _ rfl, Kept.refl _ _, fun _ _ _ _ _ => trivial⟩
    | 14, ho, hsk =>
      obtain rfl := Option.some.inj ho
      have e0 : a'.eval (.tmp 48) = P0 b := is_tq (hin 13 48 (by kernel_rfl) (by kernel_rfl)) rfl
      refine wp_callF 44 _ _ rfl #[P0 b] (by simp [e0]) (cf44 _ _) ((sent44 b v ws P _ ((unhide HS).kept0 hk2)).mono ?_)
      rintro e w3 ⟨rfl, q3, rfl⟩
      exact ⟨_, rfl, _, rfl, tq_is _ _ _ _ rfl, kept_drewN _ _ _, fun _ _ _ _ _ => trivial⟩
    | 15, ho, hsk =>
      obtain rfl := Option.some.inj ho
      have e0 : a'.eval (.tmp 47) = .int .i64 d.ack := is_tq (hin 12 47 (by kernel_rfl) (by kernel_rfl)) rfl
      have e1 : a'.eval (.tmp 49) = .int .i64 P.sent.length := is_tq (hin 14 49 (by kernel_rfl) (by kernel_rfl)) rfl
      exact o_gtrT2 (.tmp 47) (.tmp 49) rfl _ _ true (unhide H6) e0 e1 ⟨_, rfl, tq_is _ _ _ _ rfl, Kept.refl _ _, fun _ _ _ _ _ => trivial⟩
    | 16, ho, hsk =>
      obtain rfl := Option.some.inj ho
      have e0 : a'.eval (.tmp 45) = .bool false := is_tq (hin 10 45 (by kernel_rfl) (by kernel_rfl)) rfl
      have e1 : a'.eval (.tmp 50) = .bool true := is_tq (hin 15 50 (by kernel_rfl) (by kernel_rfl)) rfl
      exact o_pickOr0 (.tmp 45) (.tmp 50) rfl _ e0 e1 ⟨_, rfl, tq_is _ _ _ _ rfl, Kept.refl _ _, fun _ _ _ _ _ => trivial⟩
    | 17, ho, hsk =>
      obtain rfl := Option.some.inj ho
      have e0 : a'.eval (.tmp 51) = .bool true := is_tq (hin 16 51 (by kernel_rfl) (by kernel_rfl)) rfl
      exact wp_assignV (.tmp 51) rfl _ e0 ⟨_, rfl, tq_is _ _ _ _ rfl, Kept.refl _ _, fun _ _ _ _ _ => trivial⟩
  intro w8 hk8
  replace hk8 : Kept [] w9 w8 := ⟨hk8.os, hk8.tape, hk8.output, hk8.size, hk8.block⟩
  simp only [valsQ, List.map_cons, List.map_nil, Option.getD_some, List.take_succ_cons, List.take_zero, putAll, Act.put, List.setIfInBounds_toArray, List.set_cons_succ, List.set_cons_zero]
  refine wpAny_done (by kernel_rfl) ?_ _
  replace HK := hide ((unhide HK).trans hk8)
  replace HP := hide ((unhide HP).kept hk8 (by simp))
  clear hk8
  go_wp2_with fail
  go_ret
  exact ⟨rfl, unhide HK⟩
set_option maxHeartbeats 2000000 in
theorem no_7 (m : Nat) (b : Nat) (v : Value) (ws : List Value) (P : Ps) (d : Dg) (uo : Option Addr) (uc : Nat) (w : World) (h : Sx w b v ws P) (h1 : decide (d.fr = P.oth) = true) (h2 : decide (d.to = P.me) = true) (h3 : decide (d.vw = P.view) = true) (h4 : numB d.seq = true) (h5 : numB d.ack = true) (h6 : decide ((P.sent.length : Int) < d.ack) = false) (h7 : (decide (d.seq = 0) && decide (0 < m)) = true) : Calls Try.prog 38 #[P0 b, aggV (d.C (.slice uo m uc))] w fun e w' => e = .returned (.bool true) ∧ Kept [] w w' := by
  have H1 := hide h1
  have H2 := hide h2
  have H3 := hide h3
  have H4 := hide h4
  have H5 := hide h5
  have H6 := hide h6
  have hs0 : d.seq = 0 := by simp at h7; exact h7.1
  have hl0 : (0 : Int) < (m : Int) := by simp at h7; omega
  have hl0n : 0 < m := by omega
  have hl0m : ¬ m = 0 := by omega
  have HS := hide h
  clear h h1 h2 h3 h4 h5 h6 h7
  go_enter Try.func38, Try.ntmps38
  go_wp2_with (
    first
    | (refine wpBoxV (by rfl) (.tmp 1) (by rfl) (d.C (.slice uo m uc)) (by kernel_rfl) ?_
       intro w1 p e1 B1 K1
       have HP := hide B1
       have HK := hide K1
       replace HS := hide ((unhide HS).kept0 K1)
       clear e1 B1 K1))
  have HH := hide (unhide HS).head
  refine wp_region_any mixed (wpAny_tq 29 rfl (by kernel_rfl) [some (.pointer (some ⟨p, 0, none⟩)), some (.int .i64 d.fr), some (P0 b), some (P0 b), some (.pointer (some ⟨b, 0, none⟩)), some (.pointer (some ⟨b, 1, none⟩)), some (.int .i64 P.oth), some (.bool false), some (.bool false), some (.pointer (some ⟨p, 1, none⟩)), some (.int .i64 d.to), some (P0 b), some (P0 b), some (.pointer (some ⟨b, 0, none⟩)), some (.pointer (some ⟨b, 0, none⟩)), some (.int .i64 P.me), some (.bool false), some (.bool false), some (.bool false), some (.pointer (some ⟨p, 2, none⟩)), some (.int .i64 d.vw), some (P0 b), some (P0 b), some (.pointer (some ⟨b, 0, none⟩)), some (.pointer (some ⟨b, 2, none⟩)), some (.int .i64 P.view), some (.bool false), some (.bool false), some (.bool false)] rfl (by kernel_rfl) (by kernel_rfl) ?_ ?_)
  · intro i o' hi hsk ho a' w2 hout hin hk2
    replace hk2 : Kept [] w1 w2 := ⟨hk2.os, hk2.tape, hk2.output, hk2.size, hk2.block⟩
    match i, ho, hsk with
    | 0, ho, hsk =>
      obtain rfl := Option.some.inj ho
      exact o_fld35_0 (.tmp 3) rfl p ((hout 3 (by kernel_rfl)).trans rfl) ⟨_, rfl, tq_is _ _ _ _ rfl, Kept.refl _ _, fun _ _ _ _ _ => trivial⟩
    | 1, ho, hsk =>
      obtain rfl := Option.some.inj ho
      have e0 : a'.eval (.tmp 6) = .pointer (some ⟨p, 0, none⟩) := is_tq (hin 0 6 (by kernel_rfl) (by kernel_rfl)) rfl
      exact o_load3 (.tmp 6) rfl _ _ e0 (fits_cell ((unhide HP).kept hk2 (by simp)) 0 _ rfl) ⟨_, rfl, tq_is _ _ _ _ rfl, Kept.refl _ _, fun _ _ _ _ _ => trivial⟩
    | 2, ho, hsk =>
      obtain rfl := Option.some.inj ho
      exact wp_move (.tmp 0) rfl _ ((hout 0 (by kernel_rfl)).trans rfl) ⟨_, rfl, tq_is _ _ _ _ rfl, Kept.refl _ _, fun _ _ _ _ _ => trivial⟩
    | 3, ho, hsk =>
      obtain rfl := Option.some.inj ho
      have e0 : a'.eval (.tmp 8) = P0 b := is_tq (hin 2 8 (by kernel_rfl) (by kernel_rfl)) rfl
      exact o_nil (.tmp 8) rfl _ e0 ⟨_, rfl, tq_is _ _ _ _ rfl, Kept.refl _ _, fun _ _ _ _ _ => trivial⟩
    | 4, ho, hsk =>
      obtain rfl := Option.some.inj ho
      have e0 : a'.eval (.tmp 9) = P0 b := is_tq (hin 3 9 (by kernel_rfl) (by kernel_rfl)) rfl
      exact o_fld68_0 (.tmp 9) rfl b e0 ⟨_, rfl, tq_is _ _ _ _ rfl, Kept.refl _ _, fun _ _ _ _ _ => trivial⟩
    | 5, ho, hsk =>
      obtain rfl := Option.some.inj ho
      have e0 : a'.eval (.tmp 10) = .pointer (some ⟨b, 0, none⟩) := is_tq (hin 4 10 (by kernel_rfl) (by kernel_rfl)) rfl
      exact o_fld66_1 (.tmp 10) rfl b e0 ⟨_, rfl, tq_is _ _ _ _ rfl, Kept.refl _ _, fun _ _ _ _ _ => trivial⟩
    | 6, ho, hsk =>
      obtain rfl := Option.some.inj ho
      have e0 : a'.eval (.tmp 11) = .pointer (some ⟨b, 1, none⟩) := is_tq (hin 5 11 (by kernel_rfl) (by kernel_rfl)) rfl
      exact o_load3 (.tmp 11) rfl _ _ e0 (fits_cell ((unhide HH).kept hk2 (by simp)) 1 _ rfl) ⟨_, rfl, tq_is _ _ _ _ rfl, Kept.refl _ _, fun _ _ _ _ _ => trivial⟩
    | 7, ho, hsk =>
      obtain rfl := Option.some.inj ho
      have e0 : a'.eval (.tmp 7) = .int .i64 d.fr := is_tq (hin 1 7 (by kernel_rfl) (by kernel_rfl)) rfl
      have e1 : a'.eval (.tmp 12) = .int .i64 P.oth := is_tq (hin 6 12 (by kernel_rfl) (by kernel_rfl)) rfl
      exact o_neqT3 (.tmp 7) (.tmp 12) rfl _ _ true (unhide H1) e0 e1 ⟨_, rfl, tq_is _ _ _ _ rfl, Kept.refl _ _, fun _ _ _ _ _ => trivial⟩
    | 8, ho, hsk =>
      obtain rfl := Option.some.inj ho
      have e0 : a'.eval (.tmp 13) = .bool false := is_tq (hin 7 13 (by kernel_rfl) (by kernel_rfl)) rfl
      exact wp_move (.tmp 13) rfl _ e0 ⟨_, rfl, tq_is _ _ _ _ rfl, Kept.refl _ _, fun _ _ _ _ _ => trivial⟩
    | 9, ho, hsk =>
      obtain rfl := Option.some.inj ho
      exact o_fld35_1 (.tmp 3) rfl p ((hout 3 (by kernel_rfl)).trans rfl) ⟨_, rfl, tq_is _ _ _ _ rfl, Kept.refl _ _, fun _ _ _ _ _ => trivial⟩
    | 10, ho, hsk =>
      obtain rfl := Option.some.inj ho
      have e0 : a'.eval (.tmp 15) = .pointer (some ⟨p, 1, none⟩) := is_tq (hin 9 15 (by kernel_rfl) (by kernel_rfl)) rfl
      exact o_load3 (.tmp 15) rfl _ _ e0 (fits_cell ((unhide HP).kept hk2 (by simp)) 1 _ rfl) ⟨_, rfl, tq_is _ _ _ _ rfl, Kept.refl _ _, fun _ _ _ _ _ => trivial⟩
    | 11, ho, hsk =>
      obtain rfl := Option.some.inj ho
      exact wp_move (.tmp 0) rfl _ ((hout 0 (by kernel_rfl)).trans rfl) ⟨_, rfl, tq_is _ _ _ _ rfl, Kept.refl _ _, fun _ _ _ _ _ => trivial⟩
    | 12, ho, hsk =>
      obtain rfl := Option.some.inj ho
      have e0 : a'.eval (.tmp 17) = P0 b := is_tq (hin 11 17 (by kernel_rfl) (by kernel_rfl)) rfl
      exact o_nil (.tmp 17) rfl _ e0 ⟨_, rfl, tq_is _ _ _ _ rfl, Kept.refl _ _, fun _ _ _ _ _ => trivial⟩
    | 13, ho, hsk =>
      obtain rfl := Option.some.inj ho
      have e0 : a'.eval (.tmp 18) = P0 b := is_tq (hin 12 18 (by kernel_rfl) (by kernel_rfl)) rfl
      exact o_fld68_0 (.tmp 18) rfl b e0 ⟨_, rfl, tq_is _ _ _ _ rfl, Kept.refl _ _, fun _ _ _ _ _ => trivial⟩
    | 14, ho, hsk =>
      obtain rfl := Option.some.inj ho
      have e0 : a'.eval (.tmp 19) = .pointer (some ⟨b, 0, none⟩) := is_tq (hin 13 19 (by kernel_rfl) (by kernel_rfl)) rfl
      exact o_fld66_0 (.tmp 19) rfl b e0 ⟨_, rfl, tq_is _ _ _ _ rfl, Kept.refl _ _, fun _ _ _ _ _ => trivial⟩
    | 15, ho, hsk =>
      obtain rfl := Option.some.inj ho
      have e0 : a'.eval (.tmp 20) = .pointer (some ⟨b, 0, none⟩) := is_tq (hin 14 20 (by kernel_rfl) (by kernel_rfl)) rfl
      exact o_load3 (.tmp 20) rfl _ _ e0 (fits_cell ((unhide HH).kept hk2 (by simp)) 0 _ rfl) ⟨_, rfl, tq_is _ _ _ _ rfl, Kept.refl _ _, fun _ _ _ _ _ => trivial⟩
    | 16, ho, hsk =>
      obtain rfl := Option.some.inj ho
      have e0 : a'.eval (.tmp 16) = .int .i64 d.to := is_tq (hin 10 16 (by kernel_rfl) (by kernel_rfl)) rfl
      have e1 : a'.eval (.tmp 21) = .int .i64 P.me := is_tq (hin 15 21 (by kernel_rfl) (by kernel_rfl)) rfl
      exact o_neqT3 (.tmp 16) (.tmp 21) rfl _ _ true (unhide H2) e0 e1 ⟨_, rfl, tq_is _ _ _ _ rfl, Kept.refl _ _, fun _ _ _ _ _ => trivial⟩
    | 17, ho, hsk =>
      obtain rfl := Option.some.inj ho
      have e0 : a'.eval (.tmp 14) = .bool false := is_tq (hin 8 14 (by kernel_rfl) (by kernel_rfl)) rfl
      have e1 : a'.eval (.tmp 22) = .bool false := is_tq (hin 16 22 (by kernel_rfl) (by kernel_rfl)) rfl
      exact o_pickOr0 (.tmp 14) (.tmp 22) rfl _ e0 e1 ⟨_, rfl, tq_is _ _ _ _ rfl, Kept.refl _ _, fun _ _ _ _ _ => trivial⟩
    | 18, ho, hsk =>
      obtain rfl := Option.some.inj ho
      have e0 : a'.eval (.tmp 23) = .bool false := is_tq (hin 17 23 (by kernel_rfl) (by kernel_rfl)) rfl
      exact wp_move (.tmp 23) rfl _ e0 ⟨_, rfl, tq_is _ _ _ _ rfl, Kept.refl _ _, fun _ _ _ _ _ => trivial⟩
    | 19, ho, hsk =>
      obtain rfl := Option.some.inj ho
      exact o_fld35_2 (.tmp 3) rfl p ((hout 3 (by kernel_rfl)).trans rfl) ⟨_, rfl, tq_is _ _ _ _ rfl, Kept.refl _ _, fun _ _ _ _ _ => trivial⟩
    | 20, ho, hsk =>
      obtain rfl := Option.some.inj ho
      have e0 : a'.eval (.tmp 25) = .pointer (some ⟨p, 2, none⟩) := is_tq (hin 19 25 (by kernel_rfl) (by kernel_rfl)) rfl
      exact o_load2 (.tmp 25) rfl _ _ e0 (fits_cell ((unhide HP).kept hk2 (by simp)) 2 _ rfl) ⟨_, rfl, tq_is _ _ _ _ rfl, Kept.refl _ _, fun _ _ _ _ _ => trivial⟩
    | 21, ho, hsk =>
      obtain rfl := Option.some.inj ho
      exact wp_move (.tmp 0) rfl _ ((hout 0 (by kernel_rfl)).trans rfl) ⟨_, rfl, tq_is _ _ _ _ rfl, Kept.refl _ _, fun _ _ _ _ _ => trivial⟩
    | 22, ho, hsk =>
      obtain rfl := Option.some.inj ho
      have e0 : a'.eval (.tmp 27) = P0 b := is_tq (hin 21 27 (by kernel_rfl) (by kernel_rfl)) rfl
      exact o_nil (.tmp 27) rfl _ e0 ⟨_, rfl, tq_is _ _ _ _ rfl, Kept.refl _ _, fun _ _ _ _ _ => trivial⟩
    | 23, ho, hsk =>
      obtain rfl := Option.some.inj ho
      have e0 : a'.eval (.tmp 28) = P0 b := is_tq (hin 22 28 (by kernel_rfl) (by kernel_rfl)) rfl
      exact o_fld68_0 (.tmp 28) rfl b e0 ⟨_, rfl, tq_is _ _ _ _ rfl, Kept.refl _ _, fun _ _ _ _ _ => trivial⟩
    | 24, ho, hsk =>
      obtain rfl := Option.some.inj ho
      have e0 : a'.eval (.tmp 29) = .pointer (some ⟨b, 0, none⟩) := is_tq (hin 23 29 (by kernel_rfl) (by kernel_rfl)) rfl
      exact o_fld66_2 (.tmp 29) rfl b e0 ⟨_, rfl, tq_is _ _ _ _ rfl, Kept.refl _ _, fun _ _ _ _ _ => trivial⟩
    | 25, ho, hsk =>
      obtain rfl := Option.some.inj ho
      have e0 : a'.eval (.tmp 30) = .pointer (some ⟨b, 2, none⟩) := is_tq (hin 24 30 (by kernel_rfl) (by kernel_rfl)) rfl
      exact o_load2 (.tmp 30) rfl _ _ e0 (fits_cell ((unhide HH).kept hk2 (by simp)) 2 _ rfl) ⟨_, rfl, tq_is _ _ _ _ rfl, Kept.refl _ _, fun _ _ _ _ _ => trivial⟩
    | 26, ho, hsk =>
      obtain rfl := Option.some.inj ho
      have e0 : a'.eval (.tmp 26) = .int .i64 d.vw := is_tq (hin 20 26 (by kernel_rfl) (by kernel_rfl)) rfl
      have e1 : a'.eval (.tmp 31) = .int .i64 P.view := is_tq (hin 25 31 (by kernel_rfl) (by kernel_rfl)) rfl
      exact o_neqT2 (.tmp 26) (.tmp 31) rfl _ _ true (unhide H3) e0 e1 ⟨_, rfl, tq_is _ _ _ _ rfl, Kept.refl _ _, fun _ _ _ _ _ => trivial⟩
    | 27, ho, hsk =>
      obtain rfl := Option.some.inj ho
      have e0 : a'.eval (.tmp 24) = .bool false := is_tq (hin 18 24 (by kernel_rfl) (by kernel_rfl)) rfl
      have e1 : a'.eval (.tmp 32) = .bool false := is_tq (hin 26 32 (by kernel_rfl) (by kernel_rfl)) rfl
      exact o_pickOr0 (.tmp 24) (.tmp 32) rfl _ e0 e1 ⟨_, rfl, tq_is _ _ _ _ rfl, Kept.refl _ _, fun _ _ _ _ _ => trivial⟩
    | 28, ho, hsk =>
      obtain rfl := Option.some.inj ho
      have e0 : a'.eval (.tmp 33) = .bool false := is_tq (hin 27 33 (by kernel_rfl) (by kernel_rfl)) rfl
      exact wp_assignV (.tmp 33) rfl _ e0 ⟨_, rfl, tq_is _ _ _ _ rfl, Kept.refl _ _, fun _ _ _ _ _ => trivial⟩
  intro w9 hk9
  replace hk9 : Kept [] w1 w9 := ⟨hk9.os, hk9.tape, hk9.output, hk9.size, hk9.block⟩
  simp only [valsQ, List.map_cons, List.map_nil, Option.getD_some, List.take_succ_cons, List.take_zero, putAll, Act.put, List.setIfInBounds_toArray, List.set_cons_succ, List.set_cons_zero]
  refine wpAny_done (by kernel_rfl) ?_ _
  replace HS := hide ((unhide HS).kept0 hk9)
  replace HP := hide ((unhide HP).kept hk9 (by simp))
  replace HH := hide (unhide HS).head
  replace HK := hide ((unhide HK).trans hk9)
  clear hk9
  go_wp2_with fail
  refine wp_region_any mixed (wpAny_tq 18 rfl (by kernel_rfl) [some (.pointer (some ⟨p, 3, none⟩)), some (.int .i64 d.seq), some (.bool true), some (.bool false), some (.bool false), some (.pointer (some ⟨p, 4, none⟩)), some (.int .i64 d.ack), some (.bool true), some (.bool false), some (.bool false), some (.bool false), some (.pointer (some ⟨p, 4, none⟩)), some (.int .i64 d.ack), some (P0 b), some (.int .i64 P.sent.length), some (.bool false), some (.bool false), some (.bool false)] rfl (by kernel_rfl) (by kernel_rfl) ?_ ?_)
  · intro i o' hi hsk ho a' w2 hout hin hk2
    replace hk2 : Kept [] w9 w2 := ⟨hk2.os, hk2.tape, hk2.output, hk2.size, hk2.block⟩
    match i, ho, hsk with
    | 0, ho, hsk =>
      obtain rfl := Option.some.inj ho
      exact o_fld35_3 (.tmp 3) rfl p ((hout 3 (by kernel_rfl)).trans rfl) ⟨_, rfl, tq_is _ _ _ _ rfl, Kept.refl _ _, fun _ _ _ _ _ => trivial⟩
    | 1, ho, hsk =>
      obtain rfl := Option.some.inj ho
      have e0 : a'.eval (.tmp 35) = .pointer (some ⟨p, 3, none⟩) := is_tq (hin 0 35 (by kernel_rfl) (by kernel_rfl)) rfl
      exact o_load2 (.tmp 35) rfl _ _ e0 (fits_cell ((unhide HP).kept hk2 (by simp)) 3 _ rfl) ⟨_, rfl, tq_is _ _ _ _ rfl, Kept.refl _ _, fun _ _ _ _ _ => trivial⟩
    | 2, ho, hsk =>
      obtain rfl := Option.some.inj ho
      have e0 : a'.eval (.tmp 36) = .int .i64 d.seq := is_tq (hin 1 36 (by kernel_rfl) (by kernel_rfl)) rfl
      refine wp_callF 32 _ _ rfl #[.int .i64 d.seq] (by simp [e0]) (cf32 _ _) ((num32 _ _).mono ?_)
      rintro e w3 ⟨rfl, rfl⟩
      rw [unhide H4]
      exact ⟨_, rfl, _, rfl, tq_is _ _ _ _ rfl, Kept.refl _ _, fun _ _ _ _ _ => trivial⟩
    | 3, ho, hsk =>
      obtain rfl := Option.some.inj ho
      have e0 : a'.eval (.tmp 37) = .bool true := is_tq (hin 2 37 (by kernel_rfl) (by kernel_rfl)) rfl
      exact o_not (.tmp 37) rfl _ e0 ⟨_, rfl, tq_is _ _ _ _ rfl, Kept.refl _ _, fun _ _ _ _ _ => trivial⟩
    | 4, ho, hsk =>
      obtain rfl := Option.some.inj ho
      have e0 : a'.eval (.tmp 38) = .bool false := is_tq (hin 3 38 (by kernel_rfl) (by kernel_rfl)) rfl
      exact wp_move (.tmp 38) rfl _ e0 ⟨_, rfl, tq_is _ _ _ _ rfl, Kept.refl _ _, fun _ _ _ _ _ => trivial⟩
    | 5, ho, hsk =>
      obtain rfl := Option.some.inj ho
      exact o_fld35_4 (.tmp 3) rfl p ((hout 3 (by kernel_rfl)).trans rfl) ⟨_, rfl, tq_is _ _ _ _ rfl, Kept.refl _ _, fun _ _ _ _ _ => trivial⟩
    | 6, ho, hsk =>
      obtain rfl := Option.some.inj ho
      have e0 : a'.eval (.tmp 40) = .pointer (some ⟨p, 4, none⟩) := is_tq (hin 5 40 (by kernel_rfl) (by kernel_rfl)) rfl
      exact o_load2 (.tmp 40) rfl _ _ e0 (fits_cell ((unhide HP).kept hk2 (by simp)) 4 _ rfl) ⟨_, rfl, tq_is _ _ _ _ rfl, Kept.refl _ _, fun _ _ _ _ _ => trivial⟩
    | 7, ho, hsk =>
      obtain rfl := Option.some.inj ho
      have e0 : a'.eval (.tmp 41) = .int .i64 d.ack := is_tq (hin 6 41 (by kernel_rfl) (by kernel_rfl)) rfl
      refine wp_callF 32 _ _ rfl #[.int .i64 d.ack] (by simp [e0]) (cf32 _ _) ((num32 _ _).mono ?_)
      rintro e w3 ⟨rfl, rfl⟩
      rw [unhide H5]
      exact ⟨_, rfl, _, rfl, tq_is _ _ _ _ rfl, Kept.refl _ _, fun _ _ _ _ _ => trivial⟩
    | 8, ho, hsk =>
      obtain rfl := Option.some.inj ho
      have e0 : a'.eval (.tmp 42) = .bool true := is_tq (hin 7 42 (by kernel_rfl) (by kernel_rfl)) rfl
      exact o_not (.tmp 42) rfl _ e0 ⟨_, rfl, tq_is _ _ _ _ rfl, Kept.refl _ _, fun _ _ _ _ _ => trivial⟩
    | 9, ho, hsk =>
      obtain rfl := Option.some.inj ho
      have e0 : a'.eval (.tmp 39) = .bool false := is_tq (hin 4 39 (by kernel_rfl) (by kernel_rfl)) rfl
      have e1 : a'.eval (.tmp 43) = .bool false := is_tq (hin 8 43 (by kernel_rfl) (by kernel_rfl)) rfl
      exact o_pickOr0 (.tmp 39) (.tmp 43) rfl _ e0 e1 ⟨_, rfl, tq_is _ _ _ _ rfl, Kept.refl _ _, fun _ _ _ _ _ => trivial⟩
    | 10, ho, hsk =>
      obtain rfl := Option.some.inj ho
      have e0 : a'.eval (.tmp 44) = .bool false := is_tq (hin 9 44 (by kernel_rfl) (by kernel_rfl)) rfl
      exact wp_move (.tmp 44) rfl _ e0 ⟨_, rfl, tq_is _ _ _ _ rfl, Kept.refl _ _, fun _ _ _ _ _ => trivial⟩
    | 11, ho, hsk =>
      obtain rfl := Option.some.inj ho
      exact o_fld35_4 (.tmp 3) rfl p ((hout 3 (by kernel_rfl)).trans rfl) ⟨_, rfl, tq_is _ _ _ _ rfl, Kept.refl _ _, fun _ _ _ _ _ => trivial⟩
    | 12, ho, hsk =>
      obtain rfl := Option.some.inj ho
      have e0 : a'.eval (.tmp 46) = .pointer (some ⟨p, 4, none⟩) := is_tq (hin 11 46 (by kernel_rfl) (by kernel_rfl)) rfl
      exact o_load2 (.tmp 46) rfl _ _ e0 (fits_cell ((unhide HP).kept hk2 (by simp)) 4 _ rfl) ⟨_, rfl, tq_is _ _ _ _ rfl, Kept.refl _ _, fun _ _ _ _ _ => trivial⟩
    | 13, ho, hsk =>
      obtain rfl := Option.some.inj ho
      exact wp_move (.tmp 0) rfl _ ((hout 0 (by kernel_rfl)).trans rfl) ⟨_, rfl, tq_is _ _ _ _ rfl, Kept.refl _ _, fun _ _ _ _ _ => trivial⟩
    | 14, ho, hsk =>
      obtain rfl := Option.some.inj ho
      have e0 : a'.eval (.tmp 48) = P0 b := is_tq (hin 13 48 (by kernel_rfl) (by kernel_rfl)) rfl
      refine wp_callF 44 _ _ rfl #[P0 b] (by simp [e0]) (cf44 _ _) ((sent44 b v ws P _ ((unhide HS).kept0 hk2)).mono ?_)
      rintro e w3 ⟨rfl, q3, rfl⟩
      exact ⟨_, rfl, _, rfl, tq_is _ _ _ _ rfl, kept_drewN _ _ _, fun _ _ _ _ _ => trivial⟩
    | 15, ho, hsk =>
      obtain rfl := Option.some.inj ho
      have e0 : a'.eval (.tmp 47) = .int .i64 d.ack := is_tq (hin 12 47 (by kernel_rfl) (by kernel_rfl)) rfl
      have e1 : a'.eval (.tmp 49) = .int .i64 P.sent.length := is_tq (hin 14 49 (by kernel_rfl) (by kernel_rfl)) rfl
      exact o_gtrT2 (.tmp 47) (.tmp 49) rfl _ _ false (unhide H6) e0 e1 ⟨_, rfl, tq_is _ _ _ _ rfl, Kept.refl _ _, fun _ _ _ _ _ => trivial⟩
    | 16, ho, hsk =>
      obtain rfl := Option.some.inj ho
      have e0 : a'.eval (.tmp 45) = .bool false := is_tq (hin 10 45 (by kernel_rfl) (by kernel_rfl)) rfl
      have e1 : a'.eval (.tmp 50) = .bool false := is_tq (hin 15 50 (by kernel_rfl) (by kernel_rfl)) rfl
      exact o_pickOr0 (.tmp 45) (.tmp 50) rfl _ e0 e1 ⟨_, rfl, tq_is _ _ _ _ rfl, Kept.refl _ _, fun _ _ _ _ _ => trivial⟩
    | 17, ho, hsk =>
      obtain rfl := Option.some.inj ho
      have e0 : a'.eval (.tmp 51) = .bool false := is_tq (hin 16 51 (by kernel_rfl) (by kernel_rfl)) rfl
      exact wp_assignV (.tmp 51) rfl _ e0 ⟨_, rfl, tq_is _ _ _ _ rfl, Kept.refl _ _, fun _ _ _ _ _ => trivial⟩
  intro w8 hk8
  replace hk8 : Kept [] w9 w8 := ⟨hk8.os, hk8.tape, hk8.output, hk8.size, hk8.block⟩
  simp only [valsQ, List.map_cons, List.map_nil, Option.getD_some, List.take_succ_cons, List.take_zero, putAll, Act.put, List.setIfInBounds_toArray, List.set_cons_succ, List.set_cons_zero]
  refine wpAny_done (by kernel_rfl) ?_ _
  replace HK := hide ((unhide HK).trans hk8)
  replace HP := hide ((unhide HP).kept hk8 (by simp))
  clear hk8
  have hc3 := fits_cell (unhide HP) 3 _ rfl
  have hc5 := fits_cell (unhide HP) 5 _ rfl
  go_wp2_with fail
  go_ret
  exact ⟨rfl, unhide HK⟩
set_option maxHeartbeats 2000000 in
theorem no_8 (m : Nat) (b : Nat) (v : Value) (ws : List Value) (P : Ps) (d : Dg) (uo : Option Addr) (uc : Nat) (w : World) (h : Sx w b v ws P) (h1 : decide (d.fr = P.oth) = true) (h2 : decide (d.to = P.me) = true) (h3 : decide (d.vw = P.view) = true) (h4 : numB d.seq = true) (h5 : numB d.ack = true) (h6 : decide ((P.sent.length : Int) < d.ack) = false) (h7 : (decide (d.seq = 0) && decide (0 < m)) = false) (h8 : decide (256 < m) = true) : Calls Try.prog 38 #[P0 b, aggV (d.C (.slice uo m uc))] w fun e w' => e = .returned (.bool true) ∧ Kept [] w w' := by
  have H1 := hide h1
  have H2 := hide h2
  have H3 := hide h3
  have H4 := hide h4
  have H5 := hide h5
  have H6 := hide h6
  have hl1 : (256 : Int) < (m : Int) := by simp at h8; omega
  have HS := hide h
  clear h h1 h2 h3 h4 h5 h6 h8
  go_enter Try.func38, Try.ntmps38
  go_wp2_with (
    first
    | (refine wpBoxV (by rfl) (.tmp 1) (by rfl) (d.C (.slice uo m uc)) (by kernel_rfl) ?_
       intro w1 p e1 B1 K1
       have HP := hide B1
       have HK := hide K1
       replace HS := hide ((unhide HS).kept0 K1)
       clear e1 B1 K1))
  have HH := hide (unhide HS).head
  refine wp_region_any mixed (wpAny_tq 29 rfl (by kernel_rfl) [some (.pointer (some ⟨p, 0, none⟩)), some (.int .i64 d.fr), some (P0 b), some (P0 b), some (.pointer (some ⟨b, 0, none⟩)), some (.pointer (some ⟨b, 1, none⟩)), some (.int .i64 P.oth), some (.bool false), some (.bool false), some (.pointer (some ⟨p, 1, none⟩)), some (.int .i64 d.to), some (P0 b), some (P0 b), some (.pointer (some ⟨b, 0, none⟩)), some (.pointer (some ⟨b, 0, none⟩)), some (.int .i64 P.me), some (.bool false), some (.bool false), some (.bool false), some (.pointer (some ⟨p, 2, none⟩)), some (.int .i64 d.vw), some (P0 b), some (P0 b), some (.pointer (some ⟨b, 0, none⟩)), some (.pointer (some ⟨b, 2, none⟩)), some (.int .i64 P.view), some (.bool false), some (.bool false), some (.bool false)] rfl (by kernel_rfl) (by kernel_rfl) ?_ ?_)
  · intro i o' hi hsk ho a' w2 hout hin hk2
    replace hk2 : Kept [] w1 w2 := ⟨hk2.os, hk2.tape, hk2.output, hk2.size, hk2.block⟩
    match i, ho, hsk with
    | 0, ho, hsk =>
      obtain rfl := Option.some.inj ho
      exact o_fld35_0 (.tmp 3) rfl p ((hout 3 (by kernel_rfl)).trans rfl) ⟨_, rfl, tq_is _ _ _ _ rfl, Kept.refl _ _, fun _ _ _ _ _ => trivial⟩
    | 1, ho, hsk =>
      obtain rfl := Option.some.inj ho
      have e0 : a'.eval (.tmp 6) = .pointer (some ⟨p, 0, none⟩) := is_tq (hin 0 6 (by kernel_rfl) (by kernel_rfl)) rfl
      exact o_load3 (.tmp 6) rfl _ _ e0 (fits_cell ((unhide HP).kept hk2 (by simp)) 0 _ rfl) ⟨_, rfl, tq_is _ _ _ _ rfl, Kept.refl _ _, fun _ _ _ _ _ => trivial⟩
    | 2, ho, hsk =>
      obtain rfl := Option.some.inj ho
      exact wp_move (.tmp 0) rfl _ ((hout 0 (by kernel_rfl)).trans rfl) ⟨_, rfl, tq_is _ _ _ _ rfl, Kept.refl _ _, fun _ _ _ _ _ => trivial⟩
    | 3, ho, hsk =>
      obtain rfl := Option.some.inj ho
      have e0 : a'.eval (.tmp 8) = P0 b := is_tq (hin 2 8 (by kernel_rfl) (by kernel_rfl)) rfl
      exact o_nil (.tmp 8) rfl _ e0 ⟨_, rfl, tq_is _ _ _ _ rfl, Kept.refl _ _, fun _ _ _ _ _ => trivial⟩
    | 4, ho, hsk =>
      obtain rfl := Option.some.inj ho
      have e0 : a'.eval (.tmp 9) = P0 b := is_tq (hin 3 9 (by kernel_rfl) (by kernel_rfl)) rfl
      exact o_fld68_0 (.tmp 9) rfl b e0 ⟨_, rfl, tq_is _ _ _ _ rfl, Kept.refl _ _, fun _ _ _ _ _ => trivial⟩
    | 5, ho, hsk =>
      obtain rfl := Option.some.inj ho
      have e0 : a'.eval (.tmp 10) = .pointer (some ⟨b, 0, none⟩) := is_tq (hin 4 10 (by kernel_rfl) (by kernel_rfl)) rfl
      exact o_fld66_1 (.tmp 10) rfl b e0 ⟨_, rfl, tq_is _ _ _ _ rfl, Kept.refl _ _, fun _ _ _ _ _ => trivial⟩
    | 6, ho, hsk =>
      obtain rfl := Option.some.inj ho
      have e0 : a'.eval (.tmp 11) = .pointer (some ⟨b, 1, none⟩) := is_tq (hin 5 11 (by kernel_rfl) (by kernel_rfl)) rfl
      exact o_load3 (.tmp 11) rfl _ _ e0 (fits_cell ((unhide HH).kept hk2 (by simp)) 1 _ rfl) ⟨_, rfl, tq_is _ _ _ _ rfl, Kept.refl _ _, fun _ _ _ _ _ => trivial⟩
    | 7, ho, hsk =>
      obtain rfl := Option.some.inj ho
      have e0 : a'.eval (.tmp 7) = .int .i64 d.fr := is_tq (hin 1 7 (by kernel_rfl) (by kernel_rfl)) rfl
      have e1 : a'.eval (.tmp 12) = .int .i64 P.oth := is_tq (hin 6 12 (by kernel_rfl) (by kernel_rfl)) rfl
      exact o_neqT3 (.tmp 7) (.tmp 12) rfl _ _ true (unhide H1) e0 e1 ⟨_, rfl, tq_is _ _ _ _ rfl, Kept.refl _ _, fun _ _ _ _ _ => trivial⟩
    | 8, ho, hsk =>
      obtain rfl := Option.some.inj ho
      have e0 : a'.eval (.tmp 13) = .bool false := is_tq (hin 7 13 (by kernel_rfl) (by kernel_rfl)) rfl
      exact wp_move (.tmp 13) rfl _ e0 ⟨_, rfl, tq_is _ _ _ _ rfl, Kept.refl _ _, fun _ _ _ _ _ => trivial⟩
    | 9, ho, hsk =>
      obtain rfl := Option.some.inj ho
      exact o_fld35_1 (.tmp 3) rfl p ((hout 3 (by kernel_rfl)).trans rfl) ⟨_, rfl, tq_is _ _ _ _ rfl, Kept.refl _ _, fun _ _ _ _ _ => trivial⟩
    | 10, ho, hsk =>
      obtain rfl := Option.some.inj ho
      have e0 : a'.eval (.tmp 15) = .pointer (some ⟨p, 1, none⟩) := is_tq (hin 9 15 (by kernel_rfl) (by kernel_rfl)) rfl
      exact o_load3 (.tmp 15) rfl _ _ e0 (fits_cell ((unhide HP).kept hk2 (by simp)) 1 _ rfl) ⟨_, rfl, tq_is _ _ _ _ rfl, Kept.refl _ _, fun _ _ _ _ _ => trivial⟩
    | 11, ho, hsk =>
      obtain rfl := Option.some.inj ho
      exact wp_move (.tmp 0) rfl _ ((hout 0 (by kernel_rfl)).trans rfl) ⟨_, rfl, tq_is _ _ _ _ rfl, Kept.refl _ _, fun _ _ _ _ _ => trivial⟩
    | 12, ho, hsk =>
      obtain rfl := Option.some.inj ho
      have e0 : a'.eval (.tmp 17) = P0 b := is_tq (hin 11 17 (by kernel_rfl) (by kernel_rfl)) rfl
      exact o_nil (.tmp 17) rfl _ e0 ⟨_, rfl, tq_is _ _ _ _ rfl, Kept.refl _ _, fun _ _ _ _ _ => trivial⟩
    | 13, ho, hsk =>
      obtain rfl := Option.some.inj ho
      have e0 : a'.eval (.tmp 18) = P0 b := is_tq (hin 12 18 (by kernel_rfl) (by kernel_rfl)) rfl
      exact o_fld68_0 (.tmp 18) rfl b e0 ⟨_, rfl, tq_is _ _ _ _ rfl, Kept.refl _ _, fun _ _ _ _ _ => trivial⟩
    | 14, ho, hsk =>
      obtain rfl := Option.some.inj ho
      have e0 : a'.eval (.tmp 19) = .pointer (some ⟨b, 0, none⟩) := is_tq (hin 13 19 (by kernel_rfl) (by kernel_rfl)) rfl
      exact o_fld66_0 (.tmp 19) rfl b e0 ⟨_, rfl, tq_is _ _ _ _ rfl, Kept.refl _ _, fun _ _ _ _ _ => trivial⟩
    | 15, ho, hsk =>
      obtain rfl := Option.some.inj ho
      have e0 : a'.eval (.tmp 20) = .pointer (some ⟨b, 0, none⟩) := is_tq (hin 14 20 (by kernel_rfl) (by kernel_rfl)) rfl
      exact o_load3 (.tmp 20) rfl _ _ e0 (fits_cell ((unhide HH).kept hk2 (by simp)) 0 _ rfl) ⟨_, rfl, tq_is _ _ _ _ rfl, Kept.refl _ _, fun _ _ _ _ _ => trivial⟩
    | 16, ho, hsk =>
      obtain rfl := Option.some.inj ho
      have e0 : a'.eval (.tmp 16) = .int .i64 d.to := is_tq (hin 10 16 (by kernel_rfl) (by kernel_rfl)) rfl
      have e1 : a'.eval (.tmp 21) = .int .i64 P.me := is_tq (hin 15 21 (by kernel_rfl) (by kernel_rfl)) rfl
      exact o_neqT3 (.tmp 16) (.tmp 21) rfl _ _ true (unhide H2) e0 e1 ⟨_, rfl, tq_is _ _ _ _ rfl, Kept.refl _ _, fun _ _ _ _ _ => trivial⟩
    | 17, ho, hsk =>
      obtain rfl := Option.some.inj ho
      have e0 : a'.eval (.tmp 14) = .bool false := is_tq (hin 8 14 (by kernel_rfl) (by kernel_rfl)) rfl
      have e1 : a'.eval (.tmp 22) = .bool false := is_tq (hin 16 22 (by kernel_rfl) (by kernel_rfl)) rfl
      exact o_pickOr0 (.tmp 14) (.tmp 22) rfl _ e0 e1 ⟨_, rfl, tq_is _ _ _ _ rfl, Kept.refl _ _, fun _ _ _ _ _ => trivial⟩
    | 18, ho, hsk =>
      obtain rfl := Option.some.inj ho
      have e0 : a'.eval (.tmp 23) = .bool false := is_tq (hin 17 23 (by kernel_rfl) (by kernel_rfl)) rfl
      exact wp_move (.tmp 23) rfl _ e0 ⟨_, rfl, tq_is _ _ _ _ rfl, Kept.refl _ _, fun _ _ _ _ _ => trivial⟩
    | 19, ho, hsk =>
      obtain rfl := Option.some.inj ho
      exact o_fld35_2 (.tmp 3) rfl p ((hout 3 (by kernel_rfl)).trans rfl) ⟨_, rfl, tq_is _ _ _ _ rfl, Kept.refl _ _, fun _ _ _ _ _ => trivial⟩
    | 20, ho, hsk =>
      obtain rfl := Option.some.inj ho
      have e0 : a'.eval (.tmp 25) = .pointer (some ⟨p, 2, none⟩) := is_tq (hin 19 25 (by kernel_rfl) (by kernel_rfl)) rfl
      exact o_load2 (.tmp 25) rfl _ _ e0 (fits_cell ((unhide HP).kept hk2 (by simp)) 2 _ rfl) ⟨_, rfl, tq_is _ _ _ _ rfl, Kept.refl _ _, fun _ _ _ _ _ => trivial⟩
    | 21, ho, hsk =>
      obtain rfl := Option.some.inj ho
      exact wp_move (.tmp 0) rfl _ ((hout 0 (by kernel_rfl)).trans rfl) ⟨_, rfl, tq_is _ _ _ _ rfl, Kept.refl _ _, fun _ _ _ _ _ => trivial⟩
    | 22, ho, hsk =>
      obtain rfl := Option.some.inj ho
      have e0 : a'.eval (.tmp 27) = P0 b := is_tq (hin 21 27 (by kernel_rfl) (by kernel_rfl)) rfl
      exact o_nil (.tmp 27) rfl _ e0 ⟨_, rfl, tq_is _ _ _ _ rfl, Kept.refl _ _, fun _ _ _ _ _ => trivial⟩
    | 23, ho, hsk =>
      obtain rfl := Option.some.inj ho
      have e0 : a'.eval (.tmp 28) = P0 b := is_tq (hin 22 28 (by kernel_rfl) (by kernel_rfl)) rfl
      exact o_fld68_0 (.tmp 28) rfl b e0 ⟨_, rfl, tq_is _ _ _ _ rfl, Kept.refl _ _, fun _ _ _ _ _ => trivial⟩
    | 24, ho, hsk =>
      obtain rfl := Option.some.inj ho
      have e0 : a'.eval (.tmp 29) = .pointer (some ⟨b, 0, none⟩) := is_tq (hin 23 29 (by kernel_rfl) (by kernel_rfl)) rfl
      exact o_fld66_2 (.tmp 29) rfl b e0 ⟨_, rfl, tq_is _ _ _ _ rfl, Kept.refl _ _, fun _ _ _ _ _ => trivial⟩
    | 25, ho, hsk =>
      obtain rfl := Option.some.inj ho
      have e0 : a'.eval (.tmp 30) = .pointer (some ⟨b, 2, none⟩) := is_tq (hin 24 30 (by kernel_rfl) (by kernel_rfl)) rfl
      exact o_load2 (.tmp 30) rfl _ _ e0 (fits_cell ((unhide HH).kept hk2 (by simp)) 2 _ rfl) ⟨_, rfl, tq_is _ _ _ _ rfl, Kept.refl _ _, fun _ _ _ _ _ => trivial⟩
    | 26, ho, hsk =>
      obtain rfl := Option.some.inj ho
      have e0 : a'.eval (.tmp 26) = .int .i64 d.vw := is_tq (hin 20 26 (by kernel_rfl) (by kernel_rfl)) rfl
      have e1 : a'.eval (.tmp 31) = .int .i64 P.view := is_tq (hin 25 31 (by kernel_rfl) (by kernel_rfl)) rfl
      exact o_neqT2 (.tmp 26) (.tmp 31) rfl _ _ true (unhide H3) e0 e1 ⟨_, rfl, tq_is _ _ _ _ rfl, Kept.refl _ _, fun _ _ _ _ _ => trivial⟩
    | 27, ho, hsk =>
      obtain rfl := Option.some.inj ho
      have e0 : a'.eval (.tmp 24) = .bool false := is_tq (hin 18 24 (by kernel_rfl) (by kernel_rfl)) rfl
      have e1 : a'.eval (.tmp 32) = .bool false := is_tq (hin 26 32 (by kernel_rfl) (by kernel_rfl)) rfl
      exact o_pickOr0 (.tmp 24) (.tmp 32) rfl _ e0 e1 ⟨_, rfl, tq_is _ _ _ _ rfl, Kept.refl _ _, fun _ _ _ _ _ => trivial⟩
    | 28, ho, hsk =>
      obtain rfl := Option.some.inj ho
      have e0 : a'.eval (.tmp 33) = .bool false := is_tq (hin 27 33 (by kernel_rfl) (by kernel_rfl)) rfl
      exact wp_assignV (.tmp 33) rfl _ e0 ⟨_, rfl, tq_is _ _ _ _ rfl, Kept.refl _ _, fun _ _ _ _ _ => trivial⟩
  intro w9 hk9
  replace hk9 : Kept [] w1 w9 := ⟨hk9.os, hk9.tape, hk9.output, hk9.size, hk9.block⟩
  simp only [valsQ, List.map_cons, List.map_nil, Option.getD_some, List.take_succ_cons, List.take_zero, putAll, Act.put, List.setIfInBounds_toArray, List.set_cons_succ, List.set_cons_zero]
  refine wpAny_done (by kernel_rfl) ?_ _
  replace HS := hide ((unhide HS).kept0 hk9)
  replace HP := hide ((unhide HP).kept hk9 (by simp))
  replace HH := hide (unhide HS).head
  replace HK := hide ((unhide HK).trans hk9)
  clear hk9
  go_wp2_with fail
  refine wp_region_any mixed (wpAny_tq 18 rfl (by kernel_rfl) [some (.pointer (some ⟨p, 3, none⟩)), some (.int .i64 d.seq), some (.bool true), some (.bool false), some (.bool false), some (.pointer (some ⟨p, 4, none⟩)), some (.int .i64 d.ack), some (.bool true), some (.bool false), some (.bool false), some (.bool false), some (.pointer (some ⟨p, 4, none⟩)), some (.int .i64 d.ack), some (P0 b), some (.int .i64 P.sent.length), some (.bool false), some (.bool false), some (.bool false)] rfl (by kernel_rfl) (by kernel_rfl) ?_ ?_)
  · intro i o' hi hsk ho a' w2 hout hin hk2
    replace hk2 : Kept [] w9 w2 := ⟨hk2.os, hk2.tape, hk2.output, hk2.size, hk2.block⟩
    match i, ho, hsk with
    | 0, ho, hsk =>
      obtain rfl := Option.some.inj ho
      exact o_fld35_3 (.tmp 3) rfl p ((hout 3 (by kernel_rfl)).trans rfl) ⟨_, rfl, tq_is _ _ _ _ rfl, Kept.refl _ _, fun _ _ _ _ _ => trivial⟩
    | 1, ho, hsk =>
      obtain rfl := Option.some.inj ho
      have e0 : a'.eval (.tmp 35) = .pointer (some ⟨p, 3, none⟩) := is_tq (hin 0 35 (by kernel_rfl) (by kernel_rfl)) rfl
      exact o_load2 (.tmp 35) rfl _ _ e0 (fits_cell ((unhide HP).kept hk2 (by simp)) 3 _ rfl) ⟨_, rfl, tq_is _ _ _ _ rfl, Kept.refl _ _, fun _ _ _ _ _ => trivial⟩
    | 2, ho, hsk =>
      obtain rfl := Option.some.inj ho
      have e0 : a'.eval (.tmp 36) = .int .i64 d.seq := is_tq (hin 1 36 (by kernel_rfl) (by kernel_rfl)) rfl
      refine wp_callF 32 _ _ rfl #[.int .i64 d.seq] (by simp [e0]) (cf32 _ _) ((num32 _ _).mono ?_)
      rintro e w3 ⟨rfl, rfl⟩
      rw [unhide H4]
      exact ⟨_, rfl, _, rfl, tq_is _ _ _ _ rfl, Kept.refl _ _, fun _ _ _ _ _ => trivial⟩
    | 3, ho, hsk =>
      obtain rfl := Option.some.inj ho
      have e0 : a'.eval (.tmp 37) = .bool true := is_tq (hin 2 37 (by kernel_rfl) (by kernel_rfl)) rfl
      exact o_not (.tmp 37) rfl _ e0 ⟨_, rfl, tq_is _ _ _ _ rfl, Kept.refl _ _, fun _ _ _ _ _ => trivial⟩
    | 4, ho, hsk =>
      obtain rfl := Option.some.inj ho
      have e0 : a'.eval (.tmp 38) = .bool false := is_tq (hin 3 38 (by kernel_rfl) (by kernel_rfl)) rfl
      exact wp_move (.tmp 38) rfl _ e0 ⟨_, rfl, tq_is _ _ _ _ rfl, Kept.refl _ _, fun _ _ _ _ _ => trivial⟩
    | 5, ho, hsk =>
      obtain rfl := Option.some.inj ho
      exact o_fld35_4 (.tmp 3) rfl p ((hout 3 (by kernel_rfl)).trans rfl) ⟨_, rfl, tq_is _ _ _ _ rfl, Kept.refl _ _, fun _ _ _ _ _ => trivial⟩
    | 6, ho, hsk =>
      obtain rfl := Option.some.inj ho
      have e0 : a'.eval (.tmp 40) = .pointer (some ⟨p, 4, none⟩) := is_tq (hin 5 40 (by kernel_rfl) (by kernel_rfl)) rfl
      exact o_load2 (.tmp 40) rfl _ _ e0 (fits_cell ((unhide HP).kept hk2 (by simp)) 4 _ rfl) ⟨_, rfl, tq_is _ _ _ _ rfl, Kept.refl _ _, fun _ _ _ _ _ => trivial⟩
    | 7, ho, hsk =>
      obtain rfl := Option.some.inj ho
      have e0 : a'.eval (.tmp 41) = .int .i64 d.ack := is_tq (hin 6 41 (by kernel_rfl) (by kernel_rfl)) rfl
      refine wp_callF 32 _ _ rfl #[.int .i64 d.ack] (by simp [e0]) (cf32 _ _) ((num32 _ _).mono ?_)
      rintro e w3 ⟨rfl, rfl⟩
      rw [unhide H5]
      exact ⟨_, rfl, _, rfl, tq_is _ _ _ _ rfl, Kept.refl _ _, fun _ _ _ _ _ => trivial⟩
    | 8, ho, hsk =>
      obtain rfl := Option.some.inj ho
      have e0 : a'.eval (.tmp 42) = .bool true := is_tq (hin 7 42 (by kernel_rfl) (by kernel_rfl)) rfl
      exact o_not (.tmp 42) rfl _ e0 ⟨_, rfl, tq_is _ _ _ _ rfl, Kept.refl _ _, fun _ _ _ _ _ => trivial⟩
    | 9, ho, hsk =>
      obtain rfl := Option.some.inj ho
      have e0 : a'.eval (.tmp 39) = .bool false := is_tq (hin 4 39 (by kernel_rfl) (by kernel_rfl)) rfl
      have e1 : a'.eval (.tmp 43) = .bool false := is_tq (hin 8 43 (by kernel_rfl) (by kernel_rfl)) rfl
      exact o_pickOr0 (.tmp 39) (.tmp 43) rfl _ e0 e1 ⟨_, rfl, tq_is _ _ _ _ rfl, Kept.refl _ _, fun _ _ _ _ _ => trivial⟩
    | 10, ho, hsk =>
      obtain rfl := Option.some.inj ho
      have e0 : a'.eval (.tmp 44) = .bool false := is_tq (hin 9 44 (by kernel_rfl) (by kernel_rfl)) rfl
      exact wp_move (.tmp 44) rfl _ e0 ⟨_, rfl, tq_is _ _ _ _ rfl, Kept.refl _ _, fun _ _ _ _ _ => trivial⟩
    | 11, ho, hsk =>
      obtain rfl := Option.some.inj ho
      exact o_fld35_4 (.tmp 3) rfl p ((hout 3 (by kernel_rfl)).trans rfl) ⟨_, rfl, tq_is _ _ _ _ rfl, Kept.refl _ _, fun _ _ _ _ _ => trivial⟩
    | 12, ho, hsk =>
      obtain rfl := Option.some.inj ho
      have e0 : a'.eval (.tmp 46) = .pointer (some ⟨p, 4, none⟩) := is_tq (hin 11 46 (by kernel_rfl) (by kernel_rfl)) rfl
      exact o_load2 (.tmp 46) rfl _ _ e0 (fits_cell ((unhide HP).kept hk2 (by simp)) 4 _ rfl) ⟨_, rfl, tq_is _ _ _ _ rfl, Kept.refl _ _, fun _ _ _ _ _ => trivial⟩
    | 13, ho, hsk =>
      obtain rfl := Option.some.inj ho
      exact wp_move (.tmp 0) rfl _ ((hout 0 (by kernel_rfl)).trans rfl) ⟨_, rfl, tq_is _ _ _ _ rfl, Kept.refl _ _, fun _ _ _ _ _ => trivial⟩
    | 14, ho, hsk =>
      obtain rfl := Option.some.inj ho
      have e0 : a'.eval (.tmp 48) = P0 b := is_tq (hin 13 48 (by kernel_rfl) (by kernel_rfl)) rfl
      refine wp_callF 44 _ _ rfl #[P0 b] (by simp [e0]) (cf44 _ _) ((sent44 b v ws P _ ((unhide HS).kept0 hk2)).mono ?_)
      rintro e w3 ⟨rfl, q3, rfl⟩
      exact ⟨_, rfl, _, rfl, tq_is _ _ _ _ rfl, kept_drewN _ _ _, fun _ _ _ _ _ => trivial⟩
    | 15, ho, hsk =>
      obtain rfl := Option.some.inj ho
      have e0 : a'.eval (.tmp 47) = .int .i64 d.ack := is_tq (hin 12 47 (by kernel_rfl) (by kernel_rfl)) rfl
      have e1 : a'.eval (.tmp 49) = .int .i64 P.sent.length := is_tq (hin 14 49 (by kernel_rfl) (by kernel_rfl)) rfl
      exact o_gtrT2 (.tmp 47) (.tmp 49) rfl _ _ false (unhide H6) e0 e1 ⟨_, rfl, tq_is _ _ _ _ rfl, Kept.refl _ _, fun _ _ _ _ _ => trivial⟩
    | 16, ho, hsk =>
      obtain rfl := Option.some.inj ho
      have e0 : a'.eval (.tmp 45) = .bool false := is_tq (hin 10 45 (by kernel_rfl) (by kernel_rfl)) rfl
      have e1 : a'.eval (.tmp 50) = .bool false := is_tq (hin 15 50 (by kernel_rfl) (by kernel_rfl)) rfl
      exact o_pickOr0 (.tmp 45) (.tmp 50) rfl _ e0 e1 ⟨_, rfl, tq_is _ _ _ _ rfl, Kept.refl _ _, fun _ _ _ _ _ => trivial⟩
    | 17, ho, hsk =>
      obtain rfl := Option.some.inj ho
      have e0 : a'.eval (.tmp 51) = .bool false := is_tq (hin 16 51 (by kernel_rfl) (by kernel_rfl)) rfl
      exact wp_assignV (.tmp 51) rfl _ e0 ⟨_, rfl, tq_is _ _ _ _ rfl, Kept.refl _ _, fun _ _ _ _ _ => trivial⟩
  intro w8 hk8
  replace hk8 : Kept [] w9 w8 := ⟨hk8.os, hk8.tape, hk8.output, hk8.size, hk8.block⟩
  simp only [valsQ, List.map_cons, List.map_nil, Option.getD_some, List.take_succ_cons, List.take_zero, putAll, Act.put, List.setIfInBounds_toArray, List.set_cons_succ, List.set_cons_zero]
  refine wpAny_done (by kernel_rfl) ?_ _
  replace HK := hide ((unhide HK).trans hk8)
  replace HP := hide ((unhide HP).kept hk8 (by simp))
  clear hk8
  have hc3 := fits_cell (unhide HP) 3 _ rfl
  have hc5 := fits_cell (unhide HP) 5 _ rfl
  by_cases hs0 : d.seq = 0
  · exfalso
    simp [hs0] at h7
    omega
  · have hsb : (d.seq == 0) = false := by simpa using hs0
    clear h7
    go_wp2_with fail
    go_ret
    exact ⟨rfl, unhide HK⟩
set_option maxHeartbeats 2000000 in
theorem no_9 (m : Nat) (b : Nat) (v : Value) (ws : List Value) (P : Ps) (d : Dg) (uo : Option Addr) (uc : Nat) (w : World) (h : Sx w b v ws P) (h1 : decide (d.fr = P.oth) = true) (h2 : decide (d.to = P.me) = true) (h3 : decide (d.vw = P.view) = true) (h4 : numB d.seq = true) (h5 : numB d.ack = true) (h6 : decide ((P.sent.length : Int) < d.ack) = false) (h7 : (decide (d.seq = 0) && decide (0 < m)) = false) (h8 : decide (256 < m) = false) : Calls Try.prog 38 #[P0 b, aggV (d.C (.slice uo m uc))] w fun e w' => e = .returned (.bool false) ∧ Kept [] w w' := by
  have H1 := hide h1
  have H2 := hide h2
  have H3 := hide h3
  have H4 := hide h4
  have H5 := hide h5
  have H6 := hide h6
  have hl1 : ¬ (256 : Int) < (m : Int) := by simp at h8; omega
  have HS := hide h
  clear h h1 h2 h3 h4 h5 h6 h8
  go_enter Try.func38, Try.ntmps38
  go_wp2_with (
    first
    | (refine wpBoxV (by rfl) (.tmp 1) (by rfl) (d.C (.slice uo m uc)) (by kernel_rfl) ?_
       intro w1 p e1 B1 K1
       have HP := hide B1
       have HK := hide K1
       replace HS := hide ((unhide HS).kept0 K1)
       clear e1 B1 K1))
  have HH := hide (unhide HS).head
  refine wp_region_any mixed (wpAny_tq 29 rfl (by kernel_rfl) [some (.pointer (some ⟨p, 0, none⟩)), some (.int .i64 d.fr), some (P0 b), some (P0 b), some (.pointer (some ⟨b, 0, none⟩)), some (.pointer (some ⟨b, 1, none⟩)), some (.int .i64 P.oth), some (.bool false), some (.bool false), some (.pointer (some ⟨p, 1, none⟩)), some (.int .i64 d.to), some (P0 b), some (P0 b), some (.pointer (some ⟨b, 0, none⟩)), some (.pointer (some ⟨b, 0, none⟩)), some (.int .i64 P.me), some (.bool false), some (.bool false), some (.bool false), some (.pointer (some ⟨p, 2, none⟩)), some (.int .i64 d.vw), some (P0 b), some (P0 b), some (.pointer (some ⟨b, 0, none⟩)), some (.pointer (some ⟨b, 2, none⟩)), some (.int .i64 P.view), some (.bool false), some (.bool false), some (.bool false)] rfl (by kernel_rfl) (by kernel_rfl) ?_ ?_)
  · intro i o' hi hsk ho a' w2 hout hin hk2
    replace hk2 : Kept [] w1 w2 := ⟨hk2.os, hk2.tape, hk2.output, hk2.size, hk2.block⟩
    match i, ho, hsk with
    | 0, ho, hsk =>
      obtain rfl := Option.some.inj ho
      exact o_fld35_0 (.tmp 3) rfl p ((hout 3 (by kernel_rfl)).trans rfl) ⟨_, rfl, tq_is _ _ _ _ rfl, Kept.refl _ _, fun _ _ _ _ _ => trivial⟩
    | 1, ho, hsk =>
      obtain rfl := Option.some.inj ho
      have e0 : a'.eval (.tmp 6) = .pointer (some ⟨p, 0, none⟩) := is_tq (hin 0 6 (by kernel_rfl) (by kernel_rfl)) rfl
      exact o_load3 (.tmp 6) rfl _ _ e0 (fits_cell ((unhide HP).kept hk2 (by simp)) 0 _ rfl) ⟨_, rfl, tq_is _ _ _ _ rfl, Kept.refl _ _, fun _ _ _ _ _ => trivial⟩
    | 2, ho, hsk =>
      obtain rfl := Option.some.inj ho
      exact wp_move (.tmp 0) rfl _ ((hout 0 (by kernel_rfl)).trans rfl) ⟨_, rfl, tq_is _ _ _ _ rfl, Kept.refl _ _, fun _ _ _ _ _ => trivial⟩
    | 3, ho, hsk =>
      obtain rfl := Option.some.inj ho
      have e0 : a'.eval (.tmp 8) = P0 b := is_tq (hin 2 8 (by kernel_rfl) (by kernel_rfl)) rfl
      exact o_nil (.tmp 8) rfl _ e0 ⟨_, rfl, tq_is _ _ _ _ rfl, Kept.refl _ _, fun _ _ _ _ _ => trivial⟩
    | 4, ho, hsk =>
      obtain rfl := Option.some.inj ho
      have e0 : a'.eval (.tmp 9) = P0 b := is_tq (hin 3 9 (by kernel_rfl) (by kernel_rfl)) rfl
      exact o_fld68_0 (.tmp 9) rfl b e0 ⟨_, rfl, tq_is _ _ _ _ rfl, Kept.refl _ _, fun _ _ _ _ _ => trivial⟩
    | 5, ho, hsk =>
      obtain rfl := Option.some.inj ho
      have e0 : a'.eval (.tmp 10) = .pointer (some ⟨b, 0, none⟩) := is_tq (hin 4 10 (by kernel_rfl) (by kernel_rfl)) rfl
      exact o_fld66_1 (.tmp 10) rfl b e0 ⟨_, rfl, tq_is _ _ _ _ rfl, Kept.refl _ _, fun _ _ _ _ _ => trivial⟩
    | 6, ho, hsk =>
      obtain rfl := Option.some.inj ho
      have e0 : a'.eval (.tmp 11) = .pointer (some ⟨b, 1, none⟩) := is_tq (hin 5 11 (by kernel_rfl) (by kernel_rfl)) rfl
      exact o_load3 (.tmp 11) rfl _ _ e0 (fits_cell ((unhide HH).kept hk2 (by simp)) 1 _ rfl) ⟨_, rfl, tq_is _ _ _ _ rfl, Kept.refl _ _, fun _ _ _ _ _ => trivial⟩
    | 7, ho, hsk =>
      obtain rfl := Option.some.inj ho
      have e0 : a'.eval (.tmp 7) = .int .i64 d.fr := is_tq (hin 1 7 (by kernel_rfl) (by kernel_rfl)) rfl
      have e1 : a'.eval (.tmp 12) = .int .i64 P.oth := is_tq (hin 6 12 (by kernel_rfl) (by kernel_rfl)) rfl
      exact o_neqT3 (.tmp 7) (.tmp 12) rfl _ _ true (unhide H1) e0 e1 ⟨_, rfl, tq_is _ _ _ _ rfl, Kept.refl _ _, fun _ _ _ _ _ => trivial⟩
    | 8, ho, hsk =>
      obtain rfl := Option.some.inj ho
      have e0 : a'.eval (.tmp 13) = .bool false := is_tq (hin 7 13 (by kernel_rfl) (by kernel_rfl)) rfl
      exact wp_move (.tmp 13) rfl _ e0 ⟨_, rfl, tq_is _ _ _ _ rfl, Kept.refl _ _, fun _ _ _ _ _ => trivial⟩
    | 9, ho, hsk =>
      obtain rfl := Option.some.inj ho
      exact o_fld35_1 (.tmp 3) rfl p ((hout 3 (by kernel_rfl)).trans rfl) ⟨_, rfl, tq_is _ _ _ _ rfl, Kept.refl _ _, fun _ _ _ _ _ => trivial⟩
    | 10, ho, hsk =>
      obtain rfl := Option.some.inj ho
      have e0 : a'.eval (.tmp 15) = .pointer (some ⟨p, 1, none⟩) := is_tq (hin 9 15 (by kernel_rfl) (by kernel_rfl)) rfl
      exact o_load3 (.tmp 15) rfl _ _ e0 (fits_cell ((unhide HP).kept hk2 (by simp)) 1 _ rfl) ⟨_, rfl, tq_is _ _ _ _ rfl, Kept.refl _ _, fun _ _ _ _ _ => trivial⟩
    | 11, ho, hsk =>
      obtain rfl := Option.some.inj ho
      exact wp_move (.tmp 0) rfl _ ((hout 0 (by kernel_rfl)).trans rfl) ⟨_, rfl, tq_is _ _ _ _ rfl, Kept.refl _ _, fun _ _ _ _ _ => trivial⟩
    | 12, ho, hsk =>
      obtain rfl := Option.some.inj ho
      have e0 : a'.eval (.tmp 17) = P0 b := is_tq (hin 11 17 (by kernel_rfl) (by kernel_rfl)) rfl
      exact o_nil (.tmp 17) rfl _ e0 ⟨_, rfl, tq_is _ _ _ _ rfl, Kept.refl _ _, fun _ _ _ _ _ => trivial⟩
    | 13, ho, hsk =>
      obtain rfl := Option.some.inj ho
      have e0 : a'.eval (.tmp 18) = P0 b := is_tq (hin 12 18 (by kernel_rfl) (by kernel_rfl)) rfl
      exact o_fld68_0 (.tmp 18) rfl b e0 ⟨_, rfl, tq_is _ _ _ _ rfl, Kept.refl _ _, fun _ _ _ _ _ => trivial⟩
    | 14, ho, hsk =>
      obtain rfl := Option.some.inj ho
      have e0 : a'.eval (.tmp 19) = .pointer (some ⟨b, 0, none⟩) := is_tq (hin 13 19 (by kernel_rfl) (by kernel_rfl)) rfl
      exact o_fld66_0 (.tmp 19) rfl b e0 ⟨_, rfl, tq_is _ _ _ _ rfl, Kept.refl _ _, fun _ _ _ _ _ => trivial⟩
    | 15, ho, hsk =>
      obtain rfl := Option.some.inj ho
      have e0 : a'.eval (.tmp 20) = .pointer (some ⟨b, 0, none⟩) := is_tq (hin 14 20 (by kernel_rfl) (by kernel_rfl)) rfl
      exact o_load3 (.tmp 20) rfl _ _ e0 (fits_cell ((unhide HH).kept hk2 (by simp)) 0 _ rfl) ⟨_, rfl, tq_is _ _ _ _ rfl, Kept.refl _ _, fun _ _ _ _ _ => trivial⟩
    | 16, ho, hsk =>
      obtain rfl := Option.some.inj ho
      have e0 : a'.eval (.tmp 16) = .int .i64 d.to := is_tq (hin 10 16 (by kernel_rfl) (by kernel_rfl)) rfl
      have e1 : a'.eval (.tmp 21) = .int .i64 P.me := is_tq (hin 15 21 (by kernel_rfl) (by kernel_rfl)) rfl
      exact o_neqT3 (.tmp 16) (.tmp 21) rfl _ _ true (unhide H2) e0 e1 ⟨_, rfl, tq_is _ _ _ _ rfl, Kept.refl _ _, fun _ _ _ _ _ => trivial⟩
    | 17, ho, hsk =>
      obtain rfl := Option.some.inj ho
      have e0 : a'.eval (.tmp 14) = .bool false := is_tq (hin 8 14 (by kernel_rfl) (by kernel_rfl)) rfl
      have e1 : a'.eval (.tmp 22) = .bool false := is_tq (hin 16 22 (by kernel_rfl) (by kernel_rfl)) rfl
      exact o_pickOr0 (.tmp 14) (.tmp 22) rfl _ e0 e1 ⟨_, rfl, tq_is _ _ _ _ rfl, Kept.refl _ _, fun _ _ _ _ _ => trivial⟩
    | 18, ho, hsk =>
      obtain rfl := Option.some.inj ho
      have e0 : a'.eval (.tmp 23) = .bool false := is_tq (hin 17 23 (by kernel_rfl) (by kernel_rfl)) rfl
      exact wp_move (.tmp 23) rfl _ e0 ⟨_, rfl, tq_is _ _ _ _ rfl, Kept.refl _ _, fun _ _ _ _ _ => trivial⟩
    | 19, ho, hsk =>
      obtain rfl := Option.some.inj ho
      exact o_fld35_2 (.tmp 3) rfl p ((hout 3 (by kernel_rfl)).trans rfl) ⟨_, rfl, tq_is _ _ _ _ rfl, Kept.refl _ _, fun _ _ _ _ _ => trivial⟩
    | 20, ho, hsk =>
      obtain rfl := Option.some.inj ho
      have e0 : a'.eval (.tmp 25) = .pointer (some ⟨p, 2, none⟩) := is_tq (hin 19 25 (by kernel_rfl) (by kernel_rfl)) rfl
      exact o_load2 (.tmp 25) rfl _ _ e0 (fits_cell ((unhide HP).kept hk2 (by simp)) 2 _ rfl) ⟨_, rfl, tq_is _ _ _ _ rfl, Kept.refl _ _, fun _ _ _ _ _ => trivial⟩
    | 21, ho, hsk =>
      obtain rfl := Option.some.inj ho
      exact wp_move (.tmp 0) rfl _ ((hout 0 (by kernel_rfl)).trans rfl) ⟨_, rfl, tq_is _ _ _ _ rfl, Kept.refl _ _, fun _ _ _ _ _ => trivial⟩
    | 22, ho, hsk =>
      obtain rfl := Option.some.inj ho
      have e0 : a'.eval (.tmp 27) = P0 b := is_tq (hin 21 27 (by kernel_rfl) (by kernel_rfl)) rfl
      exact o_nil (.tmp 27) rfl _ e0 ⟨_, rfl, tq_is _ _ _ _ rfl, Kept.refl _ _, fun _ _ _ _ _ => trivial⟩
    | 23, ho, hsk =>
      obtain rfl := Option.some.inj ho
      have e0 : a'.eval (.tmp 28) = P0 b := is_tq (hin 22 28 (by kernel_rfl) (by kernel_rfl)) rfl
      exact o_fld68_0 (.tmp 28) rfl b e0 ⟨_, rfl, tq_is _ _ _ _ rfl, Kept.refl _ _, fun _ _ _ _ _ => trivial⟩
    | 24, ho, hsk =>
      obtain rfl := Option.some.inj ho
      have e0 : a'.eval (.tmp 29) = .pointer (some ⟨b, 0, none⟩) := is_tq (hin 23 29 (by kernel_rfl) (by kernel_rfl)) rfl
      exact o_fld66_2 (.tmp 29) rfl b e0 ⟨_, rfl, tq_is _ _ _ _ rfl, Kept.refl _ _, fun _ _ _ _ _ => trivial⟩
    | 25, ho, hsk =>
      obtain rfl := Option.some.inj ho
      have e0 : a'.eval (.tmp 30) = .pointer (some ⟨b, 2, none⟩) := is_tq (hin 24 30 (by kernel_rfl) (by kernel_rfl)) rfl
      exact o_load2 (.tmp 30) rfl _ _ e0 (fits_cell ((unhide HH).kept hk2 (by simp)) 2 _ rfl) ⟨_, rfl, tq_is _ _ _ _ rfl, Kept.refl _ _, fun _ _ _ _ _ => trivial⟩
    | 26, ho, hsk =>
      obtain rfl := Option.some.inj ho
      have e0 : a'.eval (.tmp 26) = .int .i64 d.vw := is_tq (hin 20 26 (by kernel_rfl) (by kernel_rfl)) rfl
      have e1 : a'.eval (.tmp 31) = .int .i64 P.view := is_tq (hin 25 31 (by kernel_rfl) (by kernel_rfl)) rfl
      exact o_neqT2 (.tmp 26) (.tmp 31) rfl _ _ true (unhide H3) e0 e1 ⟨_, rfl, tq_is _ _ _ _ rfl, Kept.refl _ _, fun _ _ _ _ _ => trivial⟩
    | 27, ho, hsk =>
      obtain rfl := Option.some.inj ho
      have e0 : a'.eval (.tmp 24) = .bool false := is_tq (hin 18 24 (by kernel_rfl) (by kernel_rfl)) rfl
      have e1 : a'.eval (.tmp 32) = .bool false := is_tq (hin 26 32 (by kernel_rfl) (by kernel_rfl)) rfl
      exact o_pickOr0 (.tmp 24) (.tmp 32) rfl _ e0 e1 ⟨_, rfl, tq_is _ _ _ _ rfl, Kept.refl _ _, fun _ _ _ _ _ => trivial⟩
    | 28, ho, hsk =>
      obtain rfl := Option.some.inj ho
      have e0 : a'.eval (.tmp 33) = .bool false := is_tq (hin 27 33 (by kernel_rfl) (by kernel_rfl)) rfl
      exact wp_assignV (.tmp 33) rfl _ e0 ⟨_, rfl, tq_is _ _ _ _ rfl, Kept.refl _ _, fun _ _ _ _ _ => trivial⟩
  intro w9 hk9
  replace hk9 : Kept [] w1 w9 := ⟨hk9.os, hk9.tape, hk9.output, hk9.size, hk9.block⟩
  simp only [valsQ, List.map_cons, List.map_nil, Option.getD_some, List.take_succ_cons, List.take_zero, putAll, Act.put, List.setIfInBounds_toArray, List.set_cons_succ, List.set_cons_zero]
  refine wpAny_done (by kernel_rfl) ?_ _
  replace HS := hide ((unhide HS).kept0 hk9)
  replace HP := hide ((unhide HP).kept hk9 (by simp))
  replace HH := hide (unhide HS).head
  replace HK := hide ((unhide HK).trans hk9)
  clear hk9
  go_wp2_with fail
  refine wp_region_any mixed (wpAny_tq 18 rfl (by kernel_rfl) [some (.pointer (some ⟨p, 3, none⟩)), some (.int .i64 d.seq), some (.bool true), some (.bool false), some (.bool false), some (.pointer (some ⟨p, 4, none⟩)), some (.int .i64 d.ack), some (.bool true), some (.bool false), some (.bool false), some (.bool false), some (.pointer (some ⟨p, 4, none⟩)), some (.int .i64 d.ack), some (P0 b), some (.int .i64 P.sent.length), some (.bool false), some (.bool false), some (.bool false)] rfl (by kernel_rfl) (by kernel_rfl) ?_ ?_)
  · intro i o' hi hsk ho a' w2 hout hin hk2
    replace hk2 : Kept [] w9 w2 := ⟨hk2.os, hk2.tape, hk2.output, hk2.size, hk2.block⟩
    match i, ho, hsk with
    | 0, ho, hsk =>
      obtain rfl := Option.some.inj ho
      exact o_fld35_3 (.tmp 3) rfl p ((hout 3 (by kernel_rfl)).trans rfl) ⟨_, rfl, tq_is _ _ _ _ rfl, Kept.refl _ _, fun _ _ _ _ _ => trivial⟩
    | 1, ho, hsk =>
      obtain rfl := Option.some.inj ho
      have e0 : a'.eval (.tmp 35) = .pointer (some ⟨p, 3, none⟩) := is_tq (hin 0 35 (by kernel_rfl) (by kernel_rfl)) rfl
      exact o_load2 (.tmp 35) rfl _ _ e0 (fits_cell ((unhide HP).kept hk2 (by simp)) 3 _ rfl) ⟨_, rfl, tq_is _ _ _ _ rfl, Kept.refl _ _, fun _ _ _ _ _ => trivial⟩
    | 2, ho, hsk =>
      obtain rfl := Option.some.inj ho
      have e0 : a'.eval (.tmp 36) = .int .i64 d.seq := is_tq (hin 1 36 (by kernel_rfl) (by kernel_rfl)) rfl
      refine wp_callF 32 _ _ rfl #[.int .i64 d.seq] (by simp [e0]) (cf32 _ _) ((num32 _ _).mono ?_)
      rintro e w3 ⟨rfl, rfl⟩
      rw [unhide H4]
      exact ⟨_, rfl, _, rfl, tq_is _ _ _ _ rfl, Kept.refl _ _, fun _ _ _ _ _ => trivial⟩
    | 3, ho, hsk =>
      obtain rfl := Option.some.inj ho
      have e0 : a'.eval (.tmp 37) = .bool true := is_tq (hin 2 37 (by kernel_rfl) (by kernel_rfl)) rfl
      exact o_not (.tmp 37) rfl _ e0 ⟨_, rfl, tq_is _ _ _ _ rfl, Kept.refl _ _, fun _ _ _ _ _ => trivial⟩
    | 4, ho, hsk =>
      obtain rfl := Option.some.inj ho
      have e0 : a'.eval (.tmp 38) = .bool false := is_tq (hin 3 38 (by kernel_rfl) (by kernel_rfl)) rfl
      exact wp_move (.tmp 38) rfl _ e0 ⟨_, rfl, tq_is _ _ _ _ rfl, Kept.refl _ _, fun _ _ _ _ _ => trivial⟩
    | 5, ho, hsk =>
      obtain rfl := Option.some.inj ho
      exact o_fld35_4 (.tmp 3) rfl p ((hout 3 (by kernel_rfl)).trans rfl) ⟨_, rfl, tq_is _ _ _ _ rfl, Kept.refl _ _, fun _ _ _ _ _ => trivial⟩
    | 6, ho, hsk =>
      obtain rfl := Option.some.inj ho
      have e0 : a'.eval (.tmp 40) = .pointer (some ⟨p, 4, none⟩) := is_tq (hin 5 40 (by kernel_rfl) (by kernel_rfl)) rfl
      exact o_load2 (.tmp 40) rfl _ _ e0 (fits_cell ((unhide HP).kept hk2 (by simp)) 4 _ rfl) ⟨_, rfl, tq_is _ _ _ _ rfl, Kept.refl _ _, fun _ _ _ _ _ => trivial⟩
    | 7, ho, hsk =>
      obtain rfl := Option.some.inj ho
      have e0 : a'.eval (.tmp 41) = .int .i64 d.ack := is_tq (hin 6 41 (by kernel_rfl) (by kernel_rfl)) rfl
      refine wp_callF 32 _ _ rfl #[.int .i64 d.ack] (by simp [e0]) (cf32 _ _) ((num32 _ _).mono ?_)
      rintro e w3 ⟨rfl, rfl⟩
      rw [unhide H5]
      exact ⟨_, rfl, _, rfl, tq_is _ _ _ _ rfl, Kept.refl _ _, fun _ _ _ _ _ => trivial⟩
    | 8, ho, hsk =>
      obtain rfl := Option.some.inj ho
      have e0 : a'.eval (.tmp 42) = .bool true := is_tq (hin 7 42 (by kernel_rfl) (by kernel_rfl)) rfl
      exact o_not (.tmp 42) rfl _ e0 ⟨_, rfl, tq_is _ _ _ _ rfl, Kept.refl _ _, fun _ _ _ _ _ => trivial⟩
    | 9, ho, hsk =>
      obtain rfl := Option.some.inj ho
      have e0 : a'.eval (.tmp 39) = .bool false := is_tq (hin 4 39 (by kernel_rfl) (by kernel_rfl)) rfl
      have e1 : a'.eval (.tmp 43) = .bool false := is_tq (hin 8 43 (by kernel_rfl) (by kernel_rfl)) rfl
      exact o_pickOr0 (.tmp 39) (.tmp 43) rfl _ e0 e1 ⟨_, rfl, tq_is _ _ _ _ rfl, Kept.refl _ _, fun _ _ _ _ _ => trivial⟩
    | 10, ho, hsk =>
      obtain rfl := Option.some.inj ho
      have e0 : a'.eval (.tmp 44) = .bool false := is_tq (hin 9 44 (by kernel_rfl) (by kernel_rfl)) rfl
      exact wp_move (.tmp 44) rfl _ e0 ⟨_, rfl, tq_is _ _ _ _ rfl, Kept.refl _ _, fun _ _ _ _ _ => trivial⟩
    | 11, ho, hsk =>
      obtain rfl := Option.some.inj ho
      exact o_fld35_4 (.tmp 3) rfl p ((hout 3 (by kernel_rfl)).trans rfl) ⟨_, rfl, tq_is _ _ _ _ rfl, Kept.refl _ _, fun _ _ _ _ _ => trivial⟩
    | 12, ho, hsk =>
      obtain rfl := Option.some.inj ho
      have e0 : a'.eval (.tmp 46) = .pointer (some ⟨p, 4, none⟩) := is_tq (hin 11 46 (by kernel_rfl) (by kernel_rfl)) rfl
      exact o_load2 (.tmp 46) rfl _ _ e0 (fits_cell ((unhide HP).kept hk2 (by simp)) 4 _ rfl) ⟨_, rfl, tq_is _ _ _ _ rfl, Kept.refl _ _, fun _ _ _ _ _ => trivial⟩
    | 13, ho, hsk =>
      obtain rfl := Option.some.inj ho
      exact wp_move (.tmp 0) rfl _ ((hout 0 (by kernel_rfl)).trans rfl) ⟨_, rfl, tq_is _ _ _ _ rfl, Kept.refl _ _, fun _ _ _ _ _ => trivial⟩
    | 14, ho, hsk =>
      obtain rfl := Option.some.inj ho
      have e0 : a'.eval (.tmp 48) = P0 b := is_tq (hin 13 48 (by kernel_rfl) (by kernel_rfl)) rfl
      refine wp_callF 44 _ _ rfl #[P0 b] (by simp [e0]) (cf44 _ _) ((sent44 b v ws P _ ((unhide HS).kept0 hk2)).mono ?_)
      rintro e w3 ⟨rfl, q3, rfl⟩
      exact ⟨_, rfl, _, rfl, tq_is _ _ _ _ rfl, kept_drewN _ _ _, fun _ _ _ _ _ => trivial⟩
    | 15, ho, hsk =>
      obtain rfl := Option.some.inj ho
      have e0 : a'.eval (.tmp 47) = .int .i64 d.ack := is_tq (hin 12 47 (by kernel_rfl) (by kernel_rfl)) rfl
      have e1 : a'.eval (.tmp 49) = .int .i64 P.sent.length := is_tq (hin 14 49 (by kernel_rfl) (by kernel_rfl)) rfl
      exact o_gtrT2 (.tmp 47) (.tmp 49) rfl _ _ false (unhide H6) e0 e1 ⟨_, rfl, tq_is _ _ _ _ rfl, Kept.refl _ _, fun _ _ _ _ _ => trivial⟩
    | 16, ho, hsk =>
      obtain rfl := Option.some.inj ho
      have e0 : a'.eval (.tmp 45) = .bool false := is_tq (hin 10 45 (by kernel_rfl) (by kernel_rfl)) rfl
      have e1 : a'.eval (.tmp 50) = .bool false := is_tq (hin 15 50 (by kernel_rfl) (by kernel_rfl)) rfl
      exact o_pickOr0 (.tmp 45) (.tmp 50) rfl _ e0 e1 ⟨_, rfl, tq_is _ _ _ _ rfl, Kept.refl _ _, fun _ _ _ _ _ => trivial⟩
    | 17, ho, hsk =>
      obtain rfl := Option.some.inj ho
      have e0 : a'.eval (.tmp 51) = .bool false := is_tq (hin 16 51 (by kernel_rfl) (by kernel_rfl)) rfl
      exact wp_assignV (.tmp 51) rfl _ e0 ⟨_, rfl, tq_is _ _ _ _ rfl, Kept.refl _ _, fun _ _ _ _ _ => trivial⟩
  intro w8 hk8
  replace hk8 : Kept [] w9 w8 := ⟨hk8.os, hk8.tape, hk8.output, hk8.size, hk8.block⟩
  simp only [valsQ, List.map_cons, List.map_nil, Option.getD_some, List.take_succ_cons, List.take_zero, putAll, Act.put, List.setIfInBounds_toArray, List.set_cons_succ, List.set_cons_zero]
  refine wpAny_done (by kernel_rfl) ?_ _
  replace HK := hide ((unhide HK).trans hk8)
  replace HP := hide ((unhide HP).kept hk8 (by simp))
  clear hk8
  have hc3 := fits_cell (unhide HP) 3 _ rfl
  have hc5 := fits_cell (unhide HP) 5 _ rfl
  by_cases hs0 : d.seq = 0
  · obtain rfl : m = 0 := by simp [hs0] at h7; exact h7
    clear h7
    go_wp2_with fail
    go_ret
    exact ⟨rfl, unhide HK⟩
  · have hsb : (d.seq == 0) = false := by simpa using hs0
    clear h7
    go_wp2_with fail
    go_ret
    exact ⟨rfl, unhide HK⟩
theorem no38 (b : Nat) (v : Value) (ws : List Value) (P : Ps) (d : Dg) (uo : Option Addr) (uc : Nat) (w : World) (h : Sx w b v ws P) : Calls Try.prog 38 #[P0 b, aggV (d.C (.slice uo d.bs.length uc))] w fun e w' => e = .returned (.bool (P.no d)) ∧ Kept [] w w' := by
  unfold Ps.no
  cases h1 : decide (d.fr = P.oth) with
  | false => exact no_1 _ b v ws P d uo uc w h h1
  | true =>
    cases h2 : decide (d.to = P.me) with
    | false => exact no_2 _ b v ws P d uo uc w h h1 h2
    | true =>
      cases h3 : decide (d.vw = P.view) with
      | false => exact no_3 _ b v ws P d uo uc w h h1 h2 h3
      | true =>
        cases h4 : numB d.seq with
        | false => exact no_4 _ b v ws P d uo uc w h h1 h2 h3 h4
        | true =>
          cases h5 : numB d.ack with
          | false => exact no_5 _ b v ws P d uo uc w h h1 h2 h3 h4 h5
          | true =>
            cases h6 : decide ((P.sent.length : Int) < d.ack) with
            | true => exact no_6 _ b v ws P d uo uc w h h1 h2 h3 h4 h5 h6
            | false =>
              cases h7 : (decide (d.seq = 0) && decide (0 < d.bs.length)) with
              | true => exact no_7 _ b v ws P d uo uc w h h1 h2 h3 h4 h5 h6 h7
              | false =>
                cases h8 : decide (256 < d.bs.length) with
                | true => exact no_8 _ b v ws P d uo uc w h h1 h2 h3 h4 h5 h6 h7 h8
                | false => exact no_9 _ b v ws P d uo uc w h h1 h2 h3 h4 h5 h6 h7 h8

end Go.Proofs.Ythbgnpbkdeofcaa
