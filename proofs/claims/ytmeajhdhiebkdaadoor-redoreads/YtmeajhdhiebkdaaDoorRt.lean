/-
  The records of a log, gone over: the iterator.
-/
import Derived.Test.YtmeajhdhiebkdaaDoorRs
import Derived.Test.YtmeajhdhiebkdaaDoorLj
namespace Go.Proofs.YtmeajhdhiebkdaaDoor
set_option maxRecDepth 100000
open Go.RowKit Go.Shelf
attribute [local go_sem] Oper.semAt_some

theorem inIdx37 {F : Fence} {n : Nat} {ops : Array Oper} {rest : List Oper} {o : Oper} {a : Act} {w : World} {Q : Exit → Act → World → Prop} (hF : ∀ f, F.fn f) (hw : Region.wanted o (yielded ops a.tmps) = true) (x y : Operand) (ho : o.op = .indexAddr 37 x y) (hsem : o.semAt F.round a.eval = execOp a.eval o) (g off m c k : Nat) (hk : k < m) (hx : a.eval x = .slice (some ⟨g, off, none⟩) m c) (hy : a.eval y = .int .i64 k)
    (h : wpListIn F n Tryd.prog ops Q rest (a.put o.dst (.pointer (some ⟨g, off + k * 101, none⟩))) w) : wpListIn F n Tryd.prog ops Q (o :: rest) a w := by
  refine wpListIn_want hw (wpIn_value (v := .pointer (some ⟨g, off + k * 101, none⟩)) hF hsem ?_ h)
  unfold execOp
  simp only [ho, hx, hy]
  simp [go_sem, hk, Addr.add_lit]
set_option maxHeartbeats 4000000 in
/-- Going over a row of records: what is handed on is told by its place; the caller's fact holds the row. -/
theorem rec_in (n : Nat) (hn : 1 ≤ n) (lp c : Nat) (u : Value) (R : List Rc.Rec) (W : World) (hc : Blk W c 37 [u]) (hb : ∀ r ∈ R, Rc.Byts 96 r.bd) (hR : R.length ≤ 1000)
    (I Ix : Nat → World → Prop) (hI : ∀ k A B, I k A → A.grownBy B none → I k B) (hIO : ∀ k A, I k A → OwnO A u R.length (cellsR R))
    (hY : ∀ k r W1, R[k]? = some r → I k W1 → YieldAt Fence.wide (n - 1) Tryd.prog lp #[aggV (Rc.recC r)] W1 fun e W' => (e = .returned (.bool true) ∧ I (k + 1) W') ∨ (e = .returned (.bool false) ∧ Ix (k + 1) W'))
    (h0 : I 0 W) :
    CallsIn Fence.wide n Tryd.prog 52 #[.func (.yield lp) #[] #[], P0 c] W fun e W' => (∃ v, e = .returned v) ∧ (I R.length W' ∨ ∃ k, k < R.length ∧ Ix (k + 1) W') := by
  have hFw := wideF
  obtain ⟨ro, rc, hu, _, _⟩ := (hIO 0 W h0).sl
  subst hu
  have c1 := fits_cell hc 0 _ rfl
  obtain ⟨m, hme⟩ : ∃ m, R.length = m := ⟨_, rfl⟩
  have HI0 := hide h0
  have HIO := hide hIO
  have HB := hide hb
  have HME := hide hme
  rw [hme] at c1 hR ⊢
  rw [callsIn_wide]
  clear hc h0 hme hIO hb
  go_enter Tryd.func52, Tryd.ntmps52
  go_wp2_with fail
  rw [← wpIn_wide (n := n)]
  gi_loopw [7] (fun i w1 => ∃ k : Nat, k ≤ m ∧ i = .int .i64 k ∧ Hid (I k w1)) (fun i _ => m - (intOf i).toNat)
  case atStart => exact ⟨0, by omega, rfl, HI0⟩
  case round =>
    clear HI0 c1
    obtain ⟨k, hkm, rfl, HI⟩ := hrel
    by_cases hlt : (k : Int) < (m : Int)
    · have hkn : k < m := by omega
      have hkR : k < R.length := by rw [unhide HME]; exact hkn
      obtain ⟨r, hr⟩ : ∃ r, R[k]? = some r := ⟨_, List.getElem?_eq_getElem hkR⟩
      have hO := unhide HIO k wr (unhide HI)
      obtain ⟨gb, off, c9, hu9, hrg⟩ := OwnO.rec_at hO (unhide HB) hkR
      rw [(List.getElem?_eq_some_iff.1 hr).2] at hrg
      rw [unhide HME] at hu9
      injection hu9 with hu1 hu2 hu3
      subst hu1
      have hrb := unhide HB r (List.mem_iff_getElem?.2 ⟨k, hr⟩)
      have HLr := hide (recC_len hrb)
      have HRG := hide hrg
      have HSK := hide hr
      clear hO hu2 hu3 hrg hrb hr
      gi_wp2_with (
        first
        | (refine inIdx37 wideF (by rfl) (.tmp 5) (.tmp 7) (by rfl) (by rfl) gb off m rc k hkn (by rfl) (by rfl) ?_)
        | (refine inLoadA row45 wideF (by rfl) (.tmp 9) (by rfl) (by rfl) gb (off + k * 101) (by rfl) (Rc.recC r) (unhide HLr) (unhide HRG) ?_)
        | (refine inNew row45 (Rc.recC Rc.zrec) (recC_len (r := Rc.zrec) (Rc.zs_byts 96)) (fun w => Rc.zero25 w) 4 (by rfl) wideF (by rfl) (by rfl) (by rfl) (.tmp 10) (by rfl) (by rfl) (fun _ => by rfl) (by rfl) (Rc.recC r) (unhide HLr) (recC_one r) (by rfl) (by rfl) ?_
           intro W7 q4 e4 B4 K4
           have HB4 := hide B4
           have hI7 := hI _ _ _ (unhide HI) (grown_of_kept K4)
           obtain ⟨fn, tmps, assign, body, hy, hR9⟩ := hY k r W7 (unhide HSK) hI7
           have hR' := hide hR9
           clear hR9 hI7
           clear e4 B4 K4)
        | (refine inLoadA row45 wideF (by rfl) (.tmp 4) (by rfl) (by rfl) q4 0 (by rfl) (Rc.recC r) (unhide HLr) (unhide HB4).range ?_))
      refine (unhide hR').mono ?_
      rintro e W8 (⟨rfl, hI8⟩ | ⟨rfl, hX8⟩)
      · have HI8 := hide hI8
        clear hI8 hR' hy
        gi_wp2
        go_roundw
        case rel => exact ⟨k + 1, by omega, by go_num, HI8⟩
        case measure => simp [intOf]; omega
      · have HX8 := hide hX8
        clear hX8 hR' hy
        gi_wp2
        refine bodyPost_ret (results_none rfl _ _ _) rfl ?_
        exact ⟨⟨_, rfl⟩, .inr ⟨k, hkn, unhide HX8⟩⟩
    · gi_wp2_with fail
      go_end0
      refine ⟨⟨_, rfl⟩, .inl ?_⟩
      rw [show m = k by omega]
      exact unhide HI

end Go.Proofs.YtmeajhdhiebkdaaDoor
