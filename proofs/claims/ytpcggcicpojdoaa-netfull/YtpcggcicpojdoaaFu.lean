/-
  The walk of NetFull.
-/
import Derived.Test.YtpcggcicpojdoaaTz
import Derived.Test.YtpcggcicpojdoaaKn
namespace Go.Proofs.Ytpcggcicpojdoaa
open Go.RowKit

theorem mk512 (w : World) : (Instr.makeSlice 34 (.int .i64 512) (.int .i64 512)).run Try.prog w = .ok (.slice (some ⟨w.heap.size, 0, none⟩) 512 512) (w.alloc (.cells (u8s (List.replicate 512 0)).toArray 5)) := by kernel_rfl
theorem wpMk512 {ops : Array Oper} {rest : List Oper} {op : Oper} {a : Act} {w : World} {Q : Exit → Act → World → Prop} (hgd : op.guard = none) (ho : op.op = .makeSlice 34 (.const (.int .i64 512)) (.const (.int .i64 512))) (h : ∀ W g, w.heap.size ≤ g → Blk W g 5 (u8s (List.replicate 512 0)) → Kept [] w W → wpList Try.prog ops Q rest (a.put op.dst (.slice (some ⟨g, 0, none⟩) 512 512)) W) : wpList Try.prog ops Q (op :: rest) a w :=
  wpList_plain hgd fun K hK => by
    unfold Oper.wp execOp
    simp only [ho, Act.eval, Sem.run_bind, mk512, Result.andThen_ok]
    exact hK _ _ (h _ _ (Nat.le_refl _) (Blk.new w 5 _) ((Kept.refl _ _).alloc _))
theorem build58 (w : World) : (Instr.build 58 #[]).run Try.prog w = .ok (aggV [.int .i64 0, .int .i64 0, .map none, .slice none 0 0]) w := by kernel_rfl
/-- A net in which none was sent stays beside another one's writing. -/
theorem Nt.beside {W W' : World} {b mb : Nat} {n : Int} {X : List Nat} (h : Nt W b mb (.slice none 0 0) (newN n)) (hk : Kept X W W') (h1 : b ∉ X) (h2 : mb ∉ X) : Nt W' b mb (.slice none 0 0) (newN n) :=
  h.kept hk (fun k ⟨_, _, hm⟩ => ⟨fun hx => by simp only [nX, Value.ownBlock, Option.toList_none, List.mem_cons, List.not_mem_nil, or_false] at hx; rcases hx with rfl | rfl; exact h1 hm; exact h2 hm, fun l hl => by cases hl⟩)
theorem vals512 {W : World} {g : Nat} (h : Blk W g 5 (u8s (List.replicate 512 0))) : Vals W (some ⟨g, 0, none⟩) 512 512 (u8s (List.replicate 512 0)) := ⟨by rw [u8s_len, List.length_replicate], Nat.le_refl _, fun _ => ⟨g, 0, rfl, h.range⟩⟩
theorem wpBoxG {ops : Array Oper} {rest : List Oper} {op : Oper} {a : Act} {w : World} {Q : Exit → Act → World → Prop} {T : Nat} (hw : Region.wanted op (yielded ops a.tmps) = true) (x : Operand) (ho : op.op = .box T x) (vs : List Value) (hx : a.eval x = aggV vs)
    (h : ∀ W b, b = w.heap.size → Blk W b T vs → Kept [] w W → wpList Try.prog ops Q rest (a.put op.dst (P0 b)) W) : wpList Try.prog ops Q (op :: rest) a w :=
  BigFrame.wpList_want hw fun K hK => by
    unfold Oper.wp execOp
    simp only [ho, hx, Sem.run_bind, run_boxA, Result.andThen_ok]
    exact hK _ _ (h _ _ rfl (Blk.new w T vs) ((Kept.refl _ _).alloc _))
set_option maxHeartbeats 16000000 in
set_option maxRecDepth 100000 in
theorem full6 (w : World) : Calls Try.prog 6 #[] w fun e w' => e = .returned (.bool true) ∧ Kept [] w w' := by
  go_enter Try.func6, Try.ntmps6
  go_wp2_with (
    first
    | (go_at_call 7
       refine (new_yes 2 _ (by decide)).mono ?_
       rintro e V1 ⟨b, mb, rfl, g1, g2, hn, hk⟩
       have KN : Hid (Kn w V1 b mb (.slice none 0 0) ⟨2, 0, []⟩) := ⟨hn, hk, g1, g2, fun i h => by cases h⟩
       clear g1 g2 hn hk))
  go_loopw [3] (fun i wr => ∃ (k : Nat) (v : Value) (L : List Ltr), k ≤ 4096 ∧ i = .int .i64 k ∧ L.length = k ∧ Hid (∀ l, L[0]? = some l → l.num = 1) ∧ Hid (Kn w wr b mb v ⟨2, k, L⟩)) (fun i _ => 4096 - (intOf i).toNat)
  case atStart => exact ⟨0, _, [], by omega, rfl, rfl, fun l h => by simp at h, KN⟩
  case round =>
    clear KN
    obtain ⟨k, v, L, hk, rfl, hL, HF, KN⟩ := hrel
    by_cases hlt : k < 4096
    · have hL1 : L.length ≤ k := by omega
      have hL2 : k ≤ L.length := by omega
      have hltI : (k : Int) < 4096 := by omega
      clear hL
      go_wp2_with (
        first
        | (go_at_call 16
           refine (send_yes b mb v ⟨2, k, L⟩ 0 1 none 0 0 [] _ (unhide KN).nt (vals_nil _) (fun _ => ⟨rfl, rfl⟩) (by simp) (fun h => absurd rfl h) rfl (by decide) (by show (k : Int) ≤ _; omega) (by show L.length < 4096; omega)).mono ?_
           rintro e V2 ⟨v1, u1, rfl, hn, hk2, hv⟩
           replace KN := hide ((unhide KN).mut hn hk2 hv)
           clear hn hk2 hv
           refine Stp.go ?_))
      constructor
      go_wp2_with (
        first
        | (go_at_call 9
           refine (st_num9 _ _).mono ?_
           rintro e w' ⟨rfl, hw9⟩
           obtain rfl := hw9.symm
           clear hw9))
      go_roundw
      case rel =>
        refine ⟨k + 1, v1, L ++ [⟨(k : Int) + 1, 0, 1, u1, []⟩], by omega, by go_num, by simp; omega, fun l h => ?_, ?_⟩
        · cases L with
          | nil =>
            simp at h
            subst h
            simp at hL2
            subst hL2
            rfl
          | cons x L => exact unhide HF l (by simpa using h)
        · have e : ((k + 1 : Nat) : Int) = (k : Int) + 1 := by omega
          show Kn w _ b mb v1 ⟨2, ((k + 1 : Nat) : Int), _⟩
          rw [e]
          exact unhide KN
      case measure => simp [intOf]; omega
    · obtain rfl : k = 4096 := by omega
      obtain ⟨l1, hl1⟩ : ∃ l, L[0]? = some l := ⟨_, List.getElem?_eq_getElem (by omega)⟩
      have hn1 := unhide HF l1 hl1
      have hpl : placeOf 1 L 0 = some (0, l1) := by rw [← hn1]; exact place_self (unhide KN).nt.rise hl1
      have HP := hide hpl
      have hLen : 4096 ≤ L.length := by omega
      have HL4 := hide hL
      obtain ⟨L', hL'⟩ : ∃ L', L.eraseIdx 0 = L' := ⟨_, rfl⟩
      have HL' : Hid (L'.length = 4095) := by rw [← hL']; show _ = _; rw [List.length_eraseIdx_of_lt (by omega)]; omega
      have HLE := hide hL'
      clear hl1 hn1 hpl HF hL hL'
      go_wp2_with (
        first
        | (go_at_call 7
           refine (new_yes 2 _ (by decide)).mono ?_
           rintro e V3 ⟨ba, ma, rfl, g1, g2, hn, hk3⟩
           have KA : Hid (Kn wr V3 ba ma (.slice none 0 0) (newN 2)) := ⟨hn, hk3, g1, g2, fun i h => by cases h⟩
           clear g1 g2 hn hk3
           refine Stp.go ?_))
      constructor
      go_wp2_with (
        first
        | (go_at_call 7
           refine (new_yes 2 _ (by decide)).mono ?_
           rintro e V4 ⟨bb, nb, rfl, g1, g2, hn, hk3⟩
           have KB := hide hn
           have HBB : Hid (ba < bb ∧ ba < nb ∧ ma < bb ∧ ma < nb) := by have h1 := (unhide KA).nt.lt; exact ⟨by omega, by omega, by omega, by omega⟩
           replace KA := hide ((unhide KA).step hk3)
           clear g1 g2 hn hk3
           refine Stp.go ?_))
      constructor
      go_wp2_with (
        first
        | (go_at_call 16
           refine (send_yes ba ma _ (newN 2) 0 1 none 0 0 [] _ (unhide KA).nt (vals_nil _) (fun _ => ⟨rfl, rfl⟩) (by simp) (fun h => absurd rfl h) (by decide) (by decide) (by decide) (by decide)).mono ?_
           rintro e V5 ⟨v1, u1, rfl, hn, hk3, hv⟩
           have hbb := unhide HBB
           have hlb := (unhide KB).lt
           have HBV : Hid (∀ i, v1.ownBlock = some i → i ≠ bb ∧ i ≠ nb) := fun i hi => by rcases hv i hi with h | h; cases h; exact ⟨by omega, by omega⟩
           replace KB := hide ((unhide KB).beside hk3 (by simp [nX, Value.ownBlock]; omega) (by simp [nX, Value.ownBlock]; omega))
           replace KA : Hid (Kn wr V5 ba ma v1 ⟨2, 1, [⟨1, 0, 1, u1, []⟩]⟩) := (unhide KA).mut hn hk3 hv
           clear hn hk3 hv hbb hlb
           refine Stp.go ?_))
      constructor
      go_wp2_with (
        first
        | (go_at_call 20
           refine (drop_yes ba ma v1 ⟨2, 1, [⟨1, 0, 1, u1, []⟩]⟩ 1 _ (unhide KA).nt 0 ⟨1, 0, 1, u1, []⟩ rfl).mono ?_
           rintro e V6 ⟨v2, rfl, hn, hk3, hv⟩
           have hbb := unhide HBB
           replace KB := hide ((unhide KB).beside hk3 (by simp only [nX, List.mem_cons, Option.mem_toList, not_or]; exact ⟨by omega, by omega, fun e => (unhide HBV _ e).1 rfl⟩) (by simp only [nX, List.mem_cons, Option.mem_toList, not_or]; exact ⟨by omega, by omega, fun e => (unhide HBV _ e).2 rfl⟩))
           replace KA : Hid (Kn wr V6 ba ma v2 ⟨2, 1, []⟩) := (unhide KA).mut hn hk3 (fun i hi => .inl (hv ▸ hi))
           clear hn hk3 hv hbb
           refine Stp.go ?_))
      constructor
      go_wp2_with (
        first
        | (go_at_call 14
           refine (u14 ba ma bb nb v2 _ ⟨2, 1, []⟩ (newN 2) _ (unhide KA).nt (unhide KB) rfl (by decide)).mono ?_
           rintro e V7 ⟨rfl, hk3⟩
           replace KN := hide ((unhide KN).step ((unhide KA).k.trans hk3))
           clear hk3 KA KB HBB HBV
           refine Stp.go ?_))
      constructor
      go_wp2_with (
        first
        | (go_at_call 16
           refine (send_full b mb v ⟨2, 4096, L⟩ 0 1 none 0 0 _ (unhide KN).nt rfl (by decide) hLen).mono ?_
           rintro e V8 ⟨rfl, hw9⟩
           obtain rfl := hw9.symm
           clear hw9
           refine Stp.go ?_))
      constructor
      go_wp2_with (
        first
        | (go_at_call 17
           refine (double_full b mb v ⟨2, 4096, L⟩ 1 0 l1 _ (unhide KN).nt (unhide HP) hLen).mono ?_
           rintro e V9 ⟨rfl, hk3⟩
           replace KN := hide ((unhide KN).step hk3)
           clear hk3
           refine Stp.go ?_))
      constructor
      go_wp2_with (
        first
        | (go_at_call 18
           refine (deliver_yes b mb v ⟨2, 4096, L⟩ 1 _ (unhide KN).nt 0 l1 (unhide HP)).mono ?_
           rintro e V10 ⟨v3, u3, rfl, hn, hbu, hk3, hv⟩
           have HBU := hide hbu
           rw [show (⟨2, 4096, L⟩ : Nn).L.eraseIdx 0 = L' from unhide HLE] at hn
           replace KN : Hid (Kn w V10 b mb v3 ⟨2, 4096, L'⟩) := (unhide KN).mut hn hk3 (fun i hi => .inl (hv ▸ hi))
           clear hn hbu hk3 hv
           refine Stp.go ?_))
      constructor
      go_wp2_with (
        first
        | (refine wpNew row47 zL rfl alloc47 14 (by rfl) (by rfl) (by rfl) (.tmp 62) (by rfl) (by rfl) (by rfl) (l1.D u3) rfl (D_one (unhide HBU).one) (by kernel_rfl) (by kernel_rfl) ?_
           intro V11 q11 e11 B11 K11
           replace KN := hide ((unhide KN).step K11)
           clear e11 B11 K11 HBU
           refine Stp.go ?_))
      constructor
      go_wp2_with (
        first
        | (refine wpMk512 (by rfl) (by rfl) ?_
           intro V12 g12 G12 B12 K12
           have HG : Hid (g12 ≠ b) := by have := (unhide KN).nt.lt; show _ ≠ _; omega
           have HB12 := hide B12
           replace KN := hide ((unhide KN).step K12)
           clear G12 B12 K12
           refine Stp.go ?_))
      constructor
      go_wp2_with (
        first
        | (go_at_call 16
           refine (send_yes b mb v3 ⟨2, 4096, L'⟩ 1 0 (some ⟨g12, 0, none⟩) 512 512 (List.replicate 512 0) _ (unhide KN).nt (vals512 (unhide HB12)) (fun e => by cases e) (fun x hx => by rw [List.mem_replicate] at hx; omega) (fun _ h off e => by cases e; exact unhide HG) rfl (by decide) (by show (4096 : Int) ≤ _; decide) (by have h9 := unhide HL'; show L'.length < 4096; omega)).mono ?_
           rintro e V13 ⟨v4, u4, rfl, hn, hk3, hv⟩
           replace KN := hide ((unhide KN).mut hn hk3 hv)
           clear hn hk3 hv HB12 HG
           refine Stp.go ?_))
      constructor
      go_wp2_with (
        first
        | (go_at_call 9
           refine (st_num9 _ _).mono ?_
           rintro e w' ⟨rfl, hw9⟩
           obtain rfl := hw9.symm
           clear hw9
           refine Stp.go ?_))
      constructor
      go_wp2_with (
        first
        | (go_at_call 9
           refine (st_num9 _ _).mono ?_
           rintro e w' ⟨rfl, hw9⟩
           obtain rfl := hw9.symm
           clear hw9
           refine Stp.go ?_))
      constructor
      go_wp2_with (
        first
        | (go_at_call 9
           refine (st_num9 _ _).mono ?_
           rintro e w' ⟨rfl, hw9⟩
           obtain rfl := hw9.symm
           clear hw9
           refine Stp.go ?_))
      constructor
      go_wp2_with (
        first
        | (go_at_call 9
           refine (st_num9 _ _).mono ?_
           rintro e w' ⟨rfl, hw9⟩
           obtain rfl := hw9.symm
           clear hw9
           refine Stp.go ?_))
      constructor
      go_wp2_with (
        first
        | (go_at_call 22
           refine (nothing22 none _ (.inl rfl)).mono ?_
           rintro e V14 ⟨rfl, hk3⟩
           replace KN := hide ((unhide KN).step hk3)
           clear hk3
           refine Stp.go ?_))
      constructor
      go_wp2_with (
        first
        | (go_at_call 22
           refine (nothing22 (some ⟨V14.heap.size, 0, none⟩) _ (.inr ⟨V14.heap.size, rfl, Blk.new V14 58 [.int .i64 0, .int .i64 0, .map none, .slice none 0 0]⟩)).mono ?_
           rintro e V16 ⟨rfl, hk3⟩
           replace KN := hide ((unhide KN).step (((Kept.refl _ _).alloc _).trans hk3))
           clear hk3
           refine Stp.go ?_))
      constructor
      go_wp2_with (
        first
        | (go_at_call 14
           refine (n14 b mb _ _ _ (unhide KN).nt).mono ?_
           rintro e V17 ⟨rfl, hw9⟩
           obtain rfl := hw9.symm
           clear hw9
           refine Stp.go ?_))
      constructor
      go_wp2_with (
        first
        | (go_at_call 10
           refine (known10 _).mono ?_
           rintro e V18 ⟨rfl, hk3⟩
           replace KN := hide ((unhide KN).step hk3)
           clear hk3))
      go_ret
      exact ⟨rfl, (unhide KN).k⟩

end Go.Proofs.Ytpcggcicpojdoaa
