/-
  those: the marks of which something is so, in their order.
-/
import Derived.Test.YthihladmifpokaaQj
import Derived.Deep.CutBlock
namespace Go.Proofs.Ythihladmifpokaa
set_option maxRecDepth 100000
set_option linter.unusedSimpArgs false
open Go.RowKit


theorem bs28 (w : World) (x : Mk) : (Instr.buildSlice 28 1 #[(0, aggV x.C)]).run Try.prog w = .ok (.slice (some ⟨w.heap.size, 0, none⟩) 1 1) (w.alloc (.cells x.C.toArray 54)) := by kernel_rfl
section
variable {ops : Array Oper} {rest : List Oper} {op o : Oper} {a : Act} {w : World} {K : Act → World → Prop} {Q : Exit → Act → World → Prop}
theorem o_bs28 (y : Operand) (ho : o.op = .buildSlice 28 1 #[(0, y)]) (x : Mk) (hy : a.eval y = aggV x.C) (h : ∀ W g, g = w.heap.size → Blk W g 54 (x.C) → Kept [] w W → K (a.put o.dst (.slice (some ⟨g, 0, none⟩) 1 1)) W) : o.wp Try.prog a w K Q := by
  unfold Oper.wp execOp
  simp only [ho, List.map_toArray, List.map_cons, List.map_nil, hy, Sem.run_bind, bs28, Result.andThen_ok]
  exact h _ _ rfl (Blk.new w 54 _) ((Kept.refl _ _).alloc _)
theorem wpBs28 (hgd : op.guard = none) (y : Operand) (ho : op.op = .buildSlice 28 1 #[(0, y)]) (x : Mk) (hy : a.eval y = aggV x.C) (h : ∀ W g, g = w.heap.size → Blk W g 54 (x.C) → Kept [] w W → wpList Try.prog ops Q rest (a.put op.dst (.slice (some ⟨g, 0, none⟩) 1 1)) W) : wpList Try.prog ops Q (op :: rest) a w :=
  wpList_plain hgd fun _ hK => o_bs28 y ho x hy (fun W g h1 h2 h3 => hK _ _ (h W g h1 h2 h3))
end
theorem Ms.one {W : World} {g : Nat} {x : Mk} (h : Blk W g 54 x.C) : Ms W (.slice (some ⟨g, 0, none⟩) 1 1) [x] := by
  have := Rw.made (n := 1) (z := 3) (e := 54) (xs := x.C) h (by simp [Mk.len]) (by unfold maxLen; omega)
  show Rw W 54 3 _ 1 (mkC [x])
  rw [show mkC [x] = x.C by simp [mkC]]
  exact this
/-- A row of marks does not lie in an iterator's block. -/
theorem Ms.ne_iter {W : World} {v : Value} {D M : List Mk} {r mb : Nat} {T : Mk → Bool} (h : Ms W v D) (hI : RI W r mb M T) : ∀ k, v.ownBlock = some k → k ≠ r := by
  intro k hk e
  obtain ⟨cs, hc⟩ := h.block k hk
  obtain ⟨_, _, _, _, _, _, _, _, h4, _⟩ := hI
  rw [e, h4] at hc
  cases hc
variable {w W : World} {b mb g : Nat} {M L : List Mk} {f : Mk → Bool} {cs : Array Value}
/-- What a closure is asked: it tells of each mark whether f is so, and changes nothing. -/
def Tells (w : World) (g : FuncId) (cs : Array Value) (f : Mk → Bool) : Prop := ∀ W, Kept [] w W → ∀ x : Mk, Calls Try.prog g (#[aggV x.C] ++ cs) W fun e W' => e = .returned (.bool (f x)) ∧ Kept [] W W'
theorem Tells.step (h : Tells w g cs f) (hk : Kept [] w W) : Tells W g cs f := fun W' hw => h W' (hk.trans hw)
set_option maxHeartbeats 2000000 in
theorem those43 (h : Pg w b mb M) (hp : L.Perm M) (hs : Srt L) (hent : Ent g) (ht : Tells w g cs f) : Calls Try.prog 43 #[P0 b, fnV g cs] w fun e W => ∃ v, e = .returned v ∧ Ms W v (L.filter f) ∧ (∀ k, v.ownBlock = some k → w.heap.size ≤ k) ∧ Kept [] w W := by
  have hnd : M.Nodup := h.map.nodup
  have hmb : mb < w.heap.size := by obtain ⟨_, _, h1, _⟩ := h.map; exact (Array.getElem?_eq_some_iff.1 h1).1
  have hmany : M.length ≤ 256 := h.ok.many
  have H := hide h
  have HT := hide ht
  have HMB := hide hmb
  have HSL := hide (hs.filter f)
  have HPL : Hid ((M.filter f).Perm (L.filter f)) := hide (hp.symm.filter f)
  clear h hmb ht hs hp
  go_enter Try.func43, Try.ntmps43
  go_wp2_with (
    first
    | (go_at_call 33
       refine (marks33 (unhide H)).mono ?_
       rintro e W9 ⟨rfl, q9⟩
       replace q9 := q9.symm
       subst q9
       refine Stp.go ?_))
  constructor
  go_wp2_with (
    first
    | (refine wpRange50 rfl (.tmp 10) rfl mb M rfl (unhide H).map ?_
       intro W1 r e1 I1 K1
       have HR : Hid (w.heap.size ≤ r) := by show _ ≤ _; omega
       have HJ := hide I1
       have HK := hide K1
       clear e1 I1 K1
       refine Stp.go ?_))
  constructor
  go_wp2_with fail
  go_loopw [5] (fun xl wr => ∃ (T : Mk → Bool) (D : List Mk), Hid (RI wr r mb M T) ∧ Hid (Kept [] w wr) ∧ Hid (Ms wr xl D) ∧ Hid (D.Perm (M.filter (fun x => f x && !T x))) ∧ Hid (∀ k, xl.ownBlock = some k → w.heap.size ≤ k)) (fun _ wr => wr.rangeLeft mb r)
  case atStart => exact ⟨_, [], HJ, HK, hide (Rw.nil _), hide (by show List.Perm _ _; rw [filter_all]), hide (fun k hk => by cases hk)⟩
  case round =>
    clear HJ HK
    obtain ⟨T, D, HJ, HK, HM, HP, HO⟩ := hrel
    have HN : wr.rangeLeft mb r = more M T := (unhide HJ).left_eq
    have HD : Hid (D.length ≤ 256) := by
      show _ ≤ _
      rw [(unhide HP).length_eq]
      exact Nat.le_trans (List.length_filter_le _ _) hmany
    go_wp2_with (
      first
      | (at_next
         refine Stp.go ?_))
    constructor
    refine wpNext50 rfl (.tmp 11) rfl r mb _ T rfl (unhide HJ) ?_ ?_
    · intro h0
      have HQ : Hid (D.Perm (L.filter f)) := by
        have h1 := unhide HP
        rw [filter_none h0] at h1
        exact h1.trans (unhide HPL)
      clear h0 HN
      go_wp2_with (
        first
        | (go_at_call 48
           refine (sort48 (unhide HM) (unhide HQ) (unhide HSL) (unhide HD) (X := u5.ownBlock.toList) (by simp)).mono ?_
           rintro e W7 ⟨rfl, M7, K7⟩
           have HKF : Hid (Kept [] w W7) := hide ((unhide HK).fresh K7 (fun i hi hl => by have h8 := (unhide HO) i (by simpa using hi); omega))
           have HMF := hide M7
           clear M7 K7
           refine Stp.go ?_))
      constructor
      go_wp2_with fail
      go_ret
      exact ⟨_, rfl, unhide HMF, unhide HO, unhide HKF⟩
    · intro V1 l hl hT I1 E1 K1
      have hiter := Ms.ne_iter (unhide HM) (unhide HJ)
      replace HK := hide ((unhide HK).fresh K1 (by have := unhide HR; intro i hi hl; simp at hi; omega))
      replace HM := hide ((unhide HM).kept K1 (fun k hk => by simpa using hiter k hk))
      replace HJ := hide I1
      have HE := hide E1
      clear I1 E1 K1 hiter
      cases hf : f l with
      | false =>
        have HG : Hid (f l = false) := hf
        have HP2 : Hid (D.Perm (M.filter (fun x => f x && !(T x && !decide (x = l))))) := by
          show List.Perm _ _
          rw [filter_no hf]
          exact unhide HP
        clear hf HP
        go_wp2_with (
          first
          | (refine wpEntry50 rfl (.tmp 11) rfl r mb l rfl (unhide HE) ?_
             refine Stp.go ?_))
        constructor
        go_wp2_with (
          first
          | (refine wpNew row67 (keyC 0 0) rfl zero67 6 rfl rfl rfl (.tmp 15) rfl rfl rfl (keyC l.p l.s) rfl (keyC_one l.p l.s) rfl rfl ?_
             intro W2 y e2 B2 K2
             replace HJ := hide ((unhide HJ).step K2 (by simp) (by simp))
             replace HK := hide ((unhide HK).fresh K2 (by simp))
             replace HM := hide ((unhide HM).kept K2 (by simp))
             have c0 := fits_cell B2 0 _ rfl
             have c1 := fits_cell B2 1 _ rfl
             clear e2 B2 K2
             refine Stp.go ?_))
        constructor
        go_wp2_with (
          first
          | (refine wpNew row54 mk0.C rfl zero54 8 rfl rfl rfl (.tmp 22) rfl rfl rfl l.C rfl l.one rfl rfl ?_
             intro W3 z e2 B2 K2
             replace HJ := hide ((unhide HJ).step K2 (by simp) (by simp))
             replace HK := hide ((unhide HK).fresh K2 (by simp))
             replace HM := hide ((unhide HM).kept K2 (by simp))
             have HZ := hide B2
             clear e2 B2 K2 c0 c1
             refine Stp.go ?_))
        constructor
        go_wp2_with (
          first
          | (refine wpLoadA row54 rfl (.tmp 8) rfl z 0 rfl l.C rfl (unhide HZ).range ?_
             refine Stp.go ?_))
        constructor
        go_wp2_with (
          first
          | (refine Calls.mono ((unhide HT) _ (unhide HK) l) ?_
             rintro e W4 ⟨rfl, K3⟩
             rw [show f l = false from unhide HG]
             replace HJ := hide ((unhide HJ).step K3 (by simp) (by simp))
             replace HK := hide ((unhide HK).fresh K3 (by simp))
             replace HM := hide ((unhide HM).kept K3 (by simp))
             replace HZ := hide ((unhide HZ).kept K3 (by simp))
             clear K3
             refine Stp.go ?_))
        constructor
        go_wp2_with fail
        go_roundw
        case rel => exact ⟨_, D, HJ, HK, HM, HP2, HO⟩
        case measure => rw [(unhide HJ).left_eq, HN]; exact more_less hl hT
      | true =>
        have HG : Hid (f l = true) := hf
        have HP2 : Hid ((D ++ [l]).Perm (M.filter (fun x => f x && !(T x && !decide (x = l))))) := hide (perm_step hnd hl hT hf (unhide HP))
        clear hf HP
        go_wp2_with (
          first
          | (refine wpEntry50 rfl (.tmp 11) rfl r mb l rfl (unhide HE) ?_
             refine Stp.go ?_))
        constructor
        go_wp2_with (
          first
          | (refine wpNew row67 (keyC 0 0) rfl zero67 6 rfl rfl rfl (.tmp 15) rfl rfl rfl (keyC l.p l.s) rfl (keyC_one l.p l.s) rfl rfl ?_
             intro W2 y e2 B2 K2
             replace HJ := hide ((unhide HJ).step K2 (by simp) (by simp))
             replace HK := hide ((unhide HK).fresh K2 (by simp))
             replace HM := hide ((unhide HM).kept K2 (by simp))
             have c0 := fits_cell B2 0 _ rfl
             have c1 := fits_cell B2 1 _ rfl
             clear e2 B2 K2
             refine Stp.go ?_))
        constructor
        go_wp2_with (
          first
          | (refine wpNew row54 mk0.C rfl zero54 8 rfl rfl rfl (.tmp 22) rfl rfl rfl l.C rfl l.one rfl rfl ?_
             intro W3 z e2 B2 K2
             replace HJ := hide ((unhide HJ).step K2 (by simp) (by simp))
             replace HK := hide ((unhide HK).fresh K2 (by simp))
             replace HM := hide ((unhide HM).kept K2 (by simp))
             have HZ := hide B2
             clear e2 B2 K2 c0 c1
             refine Stp.go ?_))
        constructor
        go_wp2_with (
          first
          | (refine wpLoadA row54 rfl (.tmp 8) rfl z 0 rfl l.C rfl (unhide HZ).range ?_
             refine Stp.go ?_))
        constructor
        go_wp2_with (
          first
          | (refine Calls.mono ((unhide HT) _ (unhide HK) l) ?_
             rintro e W4 ⟨rfl, K3⟩
             rw [show f l = true from unhide HG]
             replace HJ := hide ((unhide HJ).step K3 (by simp) (by simp))
             replace HK := hide ((unhide HK).fresh K3 (by simp))
             replace HM := hide ((unhide HM).kept K3 (by simp))
             replace HZ := hide ((unhide HZ).kept K3 (by simp))
             clear K3
             refine Stp.go ?_))
        constructor
        go_wp2_with (
          first
          | (refine wpLoadA row54 rfl (.tmp 8) rfl z 0 rfl l.C rfl (unhide HZ).range ?_
             refine Stp.go ?_))
        constructor
        go_wp2_with (
          first
          | (refine wpBs28 rfl (.tmp 27) rfl l rfl ?_
             intro W5 g5 e5 B5 K5
             replace HJ := hide ((unhide HJ).step K5 (by simp) (by simp))
             replace HK := hide ((unhide HK).fresh K5 (by simp))
             replace HM := hide ((unhide HM).kept K5 (by simp))
             have HN5 := hide (Ms.one B5)
             clear e5 B5 K5
             refine Stp.go ?_))
        constructor
        go_wp2_with (
          first
          | (refine wpAppR el28 rfl (.tmp 26) (.tmp 28) rfl _ D.length (mkC D) rfl (unhide HM) _ 1 (mkC [l]) rfl (unhide HN5) (mkC_one _) (by have := unhide HD; omega) (by have := unhide HD; unfold maxLen; omega) ?_
             intro v6 W6 R6 K6 O6 S6
             have HS6 := (unhide HK).size
             replace HJ := hide ((unhide HJ).step K6 (fun hk => Ms.ne_iter (unhide HM) (unhide HJ) _ (spare_own hk) rfl) (fun hk => by have h8 := (unhide HO) _ (spare_own hk); have h9 := unhide HMB; omega))
             replace HK := hide ((unhide HK).fresh K6 (fun i hi hl => by have h8 := (unhide HO) _ (spare_own hi); omega))
             have HM2 : Hid (Ms W6 v6 (D ++ [l])) := by
               show Rw _ _ _ _ _ _
               rw [mkC_app, List.length_append]
               exact R6
             have HO2 : Hid (∀ k, v6.ownBlock = some k → w.heap.size ≤ k) := fun k hk => by
               rcases O6 k hk with h8 | h8
               · exact (unhide HO) k h8
               · exact Nat.le_trans HS6 h8
             clear R6 K6 O6 S6 HS6
             refine Stp.go ?_))
        constructor
        go_wp2_with fail
        go_roundw
        case rel => exact ⟨_, _, HJ, HK, HM2, HP2, HO2⟩
        case measure => rw [(unhide HJ).left_eq, HN]; exact more_less hl hT

end Go.Proofs.Ythihladmifpokaa
