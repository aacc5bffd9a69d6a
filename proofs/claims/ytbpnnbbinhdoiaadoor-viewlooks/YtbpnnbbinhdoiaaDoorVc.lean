/-
  May: whether there may be such a view.
-/
import Derived.Test.YtbpnnbbinhdoiaaDoorVm
namespace Go.Proofs.YtbpnnbbinhdoiaaDoor
set_option maxRecDepth 100000
open Go.RowKit



theorem wpLoadG {ops : Array Oper} {rest : List Oper} {op : Oper} {a : Act} {w : World} {Q : Exit → Act → World → Prop} {T n : Nat} (hT : Row T n) (x : Operand) (ho : op.op = .load T x) (hw : Region.wanted op (yielded ops a.tmps) = true) (b off : Nat) (hx : a.eval x = .pointer (some ⟨b, off, none⟩)) (vs : List Value) (hl : vs.length = n) (hA : w.rangeAt b off vs)
    (h : wpList Tryd.prog ops Q rest (a.put op.dst (aggV vs)) w) : wpList Tryd.prog ops Q (op :: rest) a w :=
  BigFrame.wpList_want hw fun _ hK => wp_loadA hT x ho b off hx vs hl hA (hK _ _ h)
theorem mems_take (ms : List (Bool × Int)) : ∀ (k : Nat) (m : Bool × Int), ms[k]? = some m → List.take 2 (List.drop (k * 2) (memsC ms)) = memC m := by
  induction ms with
  | nil => intro k m h; simp at h
  | cons x ms ih =>
    intro k m h
    rw [memsC_cons]
    cases k with
    | zero => simp at h; subst h; rfl
    | succ k =>
      rw [show (k + 1) * 2 = k * 2 + 1 + 1 by omega, List.drop_succ_cons, List.drop_succ_cons]
      exact ih k m (by simpa using h)
theorem wpIndex24 {ops : Array Oper} {rest : List Oper} {op : Oper} {a : Act} {w : World} {Q : Exit → Act → World → Prop} (hgd : op.guard = none) (x y : Operand) (ho : op.op = .index 24 x y) (k : Nat) (ms : List (Bool × Int)) (hl : ms.length = 8) (m : Bool × Int) (hm : ms[k]? = some m)
    (hx : a.eval x = aggV (memsC ms)) (hy : a.eval y = .int .i64 k) (h : wpList Tryd.prog ops Q rest (a.put op.dst (aggV (memC m))) w) : wpList Tryd.prog ops Q (op :: rest) a w :=
  wpList_plain hgd fun K hK => by
    obtain ⟨hk, hm'⟩ := List.getElem?_eq_some_iff.1 hm
    unfold Oper.wp execOp
    simp only [aggV] at hx
    simp only [ho, hx, hy]
    have hr : (Instr.index 24 (.agg (memsC ms).toArray) (.int .i64 k)).run Tryd.prog w = .ok (aggV (memC m)) w := by
      have hk8 : k < 8 := by omega
      simp [Instr.index, go_sem]
      rw [mems_take ms k m hm, if_pos hk8]; rfl
    simp only [Sem.run_bind, hr, Result.andThen_ok]
    exact hK _ _ h
def memOk (m : Bool × Int) : Bool := if m.1 then isEp m.2 else decide (m.2 = 0)
def Vw.may (v : Vw) : Bool := if v.nu = 0 then decide (v = fv) else decide (1 ≤ v.nu ∧ v.nu ≤ 4611686018427387904) && (v.isIn v.fd && v.ms.all memOk)
theorem Vw.range {v : Vw} {W : World} {b : Nat} (h : Blk W b 26 (vwC v)) : W.rangeAt b 3 (memsC v.ms) := h.rangeIn _ fun j _ => by
  rw [vwC, show 3 + j = j + 1 + 1 + 1 by omega]; simp
set_option maxHeartbeats 2000000 in
theorem may_0 (v : Vw) (w : World) (hF : First w) (hv : v.ms.length = 8) (h0 : v.nu = 0) : Calls Tryd.prog 12 #[aggV (vwC v)] w fun e w' => e = .returned (.bool v.may) ∧ Kept [] w w' := by
  go_enter Tryd.func12, Tryd.ntmps12
  have M : Hid (Mm w w []) := hide (Mm.init hF)
  go_wp2_with (
    first
    | (refine wpBoxV rfl (.tmp 0) rfl (vwC v) rfl ?_
       intro W1 b1 e1 B1 K1
       replace M : Hid (Mm w W1 [(b1, 26, vwC v)]) := hide ((unhide M).new e1 B1 K1)
       clear e1 B1 K1
       have c0 := fits_cell ((unhide M).at 0 _ rfl) 0 _ rfl)
    | (refine wpLoadA row26 rfl (.tmp 1) rfl b1 0 rfl (vwC v) (vwC_len hv) ((unhide M).at 0 _ rfl).range ?_)
    | (refine wpLoadA row26 rfl (.global 0) rfl 0 0 rfl (vwC fv) rfl (unhide M).first.at0 ?_)
    | (refine wpEqlA 26 26 guard26 (.tmp 8) (.tmp 9) rfl rfl (vwC v) (vwC fv) rfl rfl (decide (v = fv)) (equal26 _ v fv hv rfl) ?_))
  go_ret
  exact ⟨by simp [Vw.may, h0], (unhide M).kept⟩
set_option maxHeartbeats 2000000 in
theorem may_neg (v : Vw) (w : World) (hF : First w) (h0 : v.nu < 0) : Calls Tryd.prog 12 #[aggV (vwC v)] w fun e w' => e = .returned (.bool v.may) ∧ Kept [] w w' := by
  have hr : v.may = false := by unfold Vw.may; rw [if_neg (by omega), decide_eq_false (by omega)]; rfl
  rw [hr]
  clear hr
  go_enter Tryd.func12, Tryd.ntmps12
  have M : Hid (Mm w w []) := hide (Mm.init hF)
  go_wp2_with (
    first
    | (refine wpBoxV rfl (.tmp 0) rfl (vwC v) rfl ?_
       intro W1 b1 e1 B1 K1
       replace M : Hid (Mm w W1 [(b1, 26, vwC v)]) := hide ((unhide M).new e1 B1 K1)
       clear e1 B1 K1
       have c0 := fits_cell ((unhide M).at 0 _ rfl) 0 _ rfl))
  go_ret
  exact ⟨rfl, (unhide M).kept⟩
set_option maxHeartbeats 2000000 in
theorem may_big (v : Vw) (w : World) (hF : First w) (h0 : 4611686018427387904 < v.nu) : Calls Tryd.prog 12 #[aggV (vwC v)] w fun e w' => e = .returned (.bool v.may) ∧ Kept [] w w' := by
  have hr : v.may = false := by unfold Vw.may; rw [if_neg (by omega), decide_eq_false (by omega)]; rfl
  rw [hr]
  clear hr
  go_enter Tryd.func12, Tryd.ntmps12
  have M : Hid (Mm w w []) := hide (Mm.init hF)
  go_wp2_with (
    first
    | (refine wpBoxV rfl (.tmp 0) rfl (vwC v) rfl ?_
       intro W1 b1 e1 B1 K1
       replace M : Hid (Mm w W1 [(b1, 26, vwC v)]) := hide ((unhide M).new e1 B1 K1)
       clear e1 B1 K1
       have c0 := fits_cell ((unhide M).at 0 _ rfl) 0 _ rfl))
  go_ret
  exact ⟨rfl, (unhide M).kept⟩
set_option maxHeartbeats 2000000 in
theorem may_out (v : Vw) (w : World) (hF : First w) (hv : v.ms.length = 8) (h0 : 1 ≤ v.nu) (h1 : v.nu ≤ 4611686018427387904) (hI : v.isIn v.fd = false) : Calls Tryd.prog 12 #[aggV (vwC v)] w fun e w' => e = .returned (.bool v.may) ∧ Kept [] w w' := by
  have hr : v.may = false := by unfold Vw.may; rw [if_neg (by omega), hI, Bool.false_and, Bool.and_false]
  rw [hr]
  clear hr
  have P35 : ∀ W, Hid (Calls Tryd.prog 35 #[aggV (vwC v), .int .i64 v.fd] W fun e w' => e = .returned (.bool false) ∧ Kept [] W w') := fun W => hide (by have := isIn35 v v.fd W hv; rw [hI] at this; exact this)
  go_enter Tryd.func12, Tryd.ntmps12
  have hd1 : decide (v.nu < 0) = false := by simp; omega
  have hd2 : decide (4611686018427387904 < v.nu) = false := by simp; omega
  have M : Hid (Mm w w []) := hide (Mm.init hF)
  go_wp2_with (
    first
    | (refine wpBoxV rfl (.tmp 0) rfl (vwC v) rfl ?_
       intro W1 b1 e1 B1 K1
       replace M : Hid (Mm w W1 [(b1, 26, vwC v)]) := hide ((unhide M).new e1 B1 K1)
       clear e1 B1 K1
       have c0 := fits_cell ((unhide M).at 0 _ rfl) 0 _ rfl
       have c2 := fits_cell ((unhide M).at 0 _ rfl) 2 _ rfl)
    | (refine wpLoadG row26 (.tmp 1) rfl rfl b1 0 rfl (vwC v) (vwC_len hv) ((unhide M).at 0 _ rfl).range ?_)
    | (go_at_call 35
       refine (unhide (P35 _)).mono ?_
       rintro e W2 ⟨rfl, K2⟩
       replace M : Hid (Mm w W2 [(b1, 26, vwC v)]) := hide ((unhide M).step K2)
       clear K2))
  go_ret
  exact ⟨rfl, (unhide M).kept⟩
set_option maxHeartbeats 2000000 in
theorem may_in (v : Vw) (w : World) (hF : First w) (hv : v.ms.length = 8) (h0 : 1 ≤ v.nu) (h1 : v.nu ≤ 4611686018427387904) (hI : v.isIn v.fd = true) : Calls Tryd.prog 12 #[aggV (vwC v)] w fun e w' => e = .returned (.bool v.may) ∧ Kept [] w w' := by
  have hr : v.may = v.ms.all memOk := by unfold Vw.may; rw [if_neg (by omega), hI, Bool.true_and, decide_eq_true (by omega), Bool.true_and]
  rw [hr]
  clear hr
  have hd1 : decide (v.nu < 0) = false := by simp; omega
  have hd2 : decide (4611686018427387904 < v.nu) = false := by simp; omega
  have P35 : ∀ W, Hid (Calls Tryd.prog 35 #[aggV (vwC v), .int .i64 v.fd] W fun e w' => e = .returned (.bool true) ∧ Kept [] W w') := fun W => hide (by have := isIn35 v v.fd W hv; rw [hI] at this; exact this)
  go_enter Tryd.func12, Tryd.ntmps12
  have M : Hid (Mm w w []) := hide (Mm.init hF)
  go_wp2_with (
    first
    | (refine wpBoxV rfl (.tmp 0) rfl (vwC v) rfl ?_
       intro W1 b1 e1 B1 K1
       replace M : Hid (Mm w W1 [(b1, 26, vwC v)]) := hide ((unhide M).new e1 B1 K1)
       clear e1 B1 K1
       have c0 := fits_cell ((unhide M).at 0 _ rfl) 0 _ rfl
       have c2 := fits_cell ((unhide M).at 0 _ rfl) 2 _ rfl)
    | (refine wpLoadG row26 (.tmp 1) rfl rfl b1 0 rfl (vwC v) (vwC_len hv) ((unhide M).at 0 _ rfl).range ?_)
    | (go_at_call 35
       refine (unhide (P35 _)).mono ?_
       rintro e W2 ⟨rfl, K2⟩
       replace M : Hid (Mm w W2 [(b1, 26, vwC v)]) := hide ((unhide M).step K2)
       clear K2)
    | (refine wpLoadA row24 rfl (.tmp 26) rfl b1 3 rfl (memsC v.ms) (by rw [memsC_len, hv]) (Vw.range ((unhide M).at 0 _ rfl)) ?_))
  clear P35 c0 c2 hd1 hd2 h0 h1 hI
  go_loopw [28] (fun i wr => ∃ j : Nat, j ≤ 8 ∧ i = .int .i64 j ∧ Hid (∀ m ∈ v.ms.take j, memOk m = true) ∧ Hid (Mm w wr [(b1, 26, vwC v)])) (fun i _ => 8 - (intOf i).toNat)
  case atStart => exact ⟨0, by omega, rfl, (fun m hm => by simp at hm), M⟩
  case round =>
    clear M
    obtain ⟨j, hj, rfl, HA, M⟩ := hrel
    by_cases hlt : j < 8
    · obtain ⟨m, hm⟩ : ∃ m, v.ms[j]? = some m := ⟨_, List.getElem?_eq_getElem (by omega)⟩
      have hltI : (j : Int) < 8 := by omega
      have HM := hide hm
      obtain ⟨mi, me⟩ := m
      have P36 : ∀ W, Hid (Calls Tryd.prog 36 #[.int .i64 me] W fun e w' => e = .returned (.bool (isEp me)) ∧ w' = W) := fun W => hide (isEpoch36 me W)
      by_cases hok : memOk (mi, me) = true
      · have HT : Hid (∀ m ∈ v.ms.take (j + 1), memOk m = true) := by
          intro m' hm'
          rw [List.take_add_one, hm] at hm'
          rcases List.mem_append.1 hm' with h | h
          · exact unhide HA m' h
          · simp at h; rw [h]; exact hok
        clear HA hm
        cases mi with
        | true =>
          have he : isEp me = true := by simpa [memOk] using hok
          rw [he] at P36
          clear hok he
          go_wp2_with (
            first
            | (refine wpIndex24 rfl (.tmp 27) (.tmp 28) rfl j v.ms hv (true, me) (unhide HM) rfl rfl ?_
               refine Stp.go ?_))
          constructor
          go_wp2_with (
            first
            | (refine wpNew row23 (memC (false, 0)) rfl zero23 4 rfl rfl rfl (.tmp 30) rfl rfl rfl (memC (true, me)) rfl (memC_one _) (by kernel_rfl) (by kernel_rfl) ?_
               intro W11 b11 e11 B11 K11
               replace M : Hid (Mm w W11 [(b1, 26, vwC v), (b11, 23, memC (true, me))]) := hide ((unhide M).new e11 B11 K11)
               clear e11 B11 K11
               have d0 := fits_cell ((unhide M).at 1 _ rfl) 0 _ rfl
               have d1 := fits_cell ((unhide M).at 1 _ rfl) 1 _ rfl
               refine Stp.go ?_))
          constructor
          go_wp2_with (
            first
            | (go_at_call 36
               refine (unhide (P36 _)).mono ?_
               rintro e W12 ⟨rfl, rfl⟩))
          go_roundw
          case rel => exact ⟨j + 1, by omega, by go_num, HT, hide ⟨(unhide M).kept, (unhide M).first, (unhide M).first0, fun x hx => (unhide M).blk x (by simp at hx; subst hx; simp), by simp⟩⟩
          case measure => simp [intOf]; omega
        | false =>
          have he : me = 0 := by simpa [memOk] using hok
          subst he
          clear hok P36
          go_wp2_with (
            first
            | (refine wpIndex24 rfl (.tmp 27) (.tmp 28) rfl j v.ms hv (false, 0) (unhide HM) rfl rfl ?_
               refine Stp.go ?_))
          constructor
          go_wp2_with (
            first
            | (refine wpNew row23 (memC (false, 0)) rfl zero23 4 rfl rfl rfl (.tmp 30) rfl rfl rfl (memC (false, 0)) rfl (memC_one _) (by kernel_rfl) (by kernel_rfl) ?_
               intro W11 b11 e11 B11 K11
               replace M : Hid (Mm w W11 [(b1, 26, vwC v), (b11, 23, memC (false, 0))]) := hide ((unhide M).new e11 B11 K11)
               clear e11 B11 K11
               have d0 := fits_cell ((unhide M).at 1 _ rfl) 0 _ rfl
               have d1 := fits_cell ((unhide M).at 1 _ rfl) 1 _ rfl))
          go_roundw
          case rel => exact ⟨j + 1, by omega, by go_num, HT, hide ⟨(unhide M).kept, (unhide M).first, (unhide M).first0, fun x hx => (unhide M).blk x (by simp at hx; subst hx; simp), by simp⟩⟩
          case measure => simp [intOf]; omega
      · have HF : Hid (v.ms.all memOk = false) := by
          have : v.ms.all memOk = false := by
            rw [List.all_eq_false]
            exact ⟨(mi, me), List.mem_of_getElem? hm, hok⟩
          exact this
        clear HA hm
        cases mi with
        | true =>
          have he : isEp me = false := by simpa [memOk] using hok
          rw [he] at P36
          clear hok he
          go_wp2_with (
            first
            | (refine wpIndex24 rfl (.tmp 27) (.tmp 28) rfl j v.ms hv (true, me) (unhide HM) rfl rfl ?_
               refine Stp.go ?_))
          constructor
          go_wp2_with (
            first
            | (refine wpNew row23 (memC (false, 0)) rfl zero23 4 rfl rfl rfl (.tmp 30) rfl rfl rfl (memC (true, me)) rfl (memC_one _) (by kernel_rfl) (by kernel_rfl) ?_
               intro W11 b11 e11 B11 K11
               replace M : Hid (Mm w W11 [(b1, 26, vwC v), (b11, 23, memC (true, me))]) := hide ((unhide M).new e11 B11 K11)
               clear e11 B11 K11
               have d0 := fits_cell ((unhide M).at 1 _ rfl) 0 _ rfl
               have d1 := fits_cell ((unhide M).at 1 _ rfl) 1 _ rfl
               refine Stp.go ?_))
          constructor
          go_wp2_with (
            first
            | (go_at_call 36
               refine (unhide (P36 _)).mono ?_
               rintro e W12 ⟨rfl, rfl⟩))
          go_ret
          exact ⟨by rw [unhide HF]; rfl, (unhide M).kept⟩
        | false =>
          have he : ¬ me = 0 := by simpa [memOk] using hok
          have hde : decide (me = 0) = false := by simpa using he
          clear hok P36
          go_wp2_with (
            first
            | (refine wpIndex24 rfl (.tmp 27) (.tmp 28) rfl j v.ms hv (false, me) (unhide HM) rfl rfl ?_
               refine Stp.go ?_))
          constructor
          go_wp2_with (
            first
            | (refine wpNew row23 (memC (false, 0)) rfl zero23 4 rfl rfl rfl (.tmp 30) rfl rfl rfl (memC (false, me)) rfl (memC_one _) (by kernel_rfl) (by kernel_rfl) ?_
               intro W11 b11 e11 B11 K11
               replace M : Hid (Mm w W11 [(b1, 26, vwC v), (b11, 23, memC (false, me))]) := hide ((unhide M).new e11 B11 K11)
               clear e11 B11 K11
               have d0 := fits_cell ((unhide M).at 1 _ rfl) 0 _ rfl
               have d1 := fits_cell ((unhide M).at 1 _ rfl) 1 _ rfl))
          go_ret
          exact ⟨by rw [unhide HF]; rfl, (unhide M).kept⟩
    · have HF : Hid (v.ms.all memOk = true) := by
        have : v.ms.all memOk = true := by
          rw [List.all_eq_true]
          intro m hm
          exact unhide HA m (by rw [List.take_of_length_le (by omega)]; exact hm)
        exact this
      go_wp2_with fail
      go_ret
      exact ⟨by rw [unhide HF]; rfl, (unhide M).kept⟩
theorem may12 (v : Vw) (w : World) (hF : First w) (hv : v.ms.length = 8) : Calls Tryd.prog 12 #[aggV (vwC v)] w fun e w' => e = .returned (.bool v.may) ∧ Kept [] w w' := by
  by_cases h0 : v.nu = 0
  · exact may_0 v w hF hv h0
  by_cases h1 : v.nu < 0
  · exact may_neg v w hF h1
  by_cases h2 : 4611686018427387904 < v.nu
  · exact may_big v w hF h2
  cases hI : v.isIn v.fd with
  | false => exact may_out v w hF hv (by omega) (by omega) hI
  | true => exact may_in v w hF hv (by omega) (by omega) hI

end Go.Proofs.YtbpnnbbinhdoiaaDoor
