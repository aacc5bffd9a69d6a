/-
  LeaseNil.
-/
import Derived.Test.YthidiolgngkffaaNo
namespace Go.Proofs.Ythidiolgngkffaa
set_option maxRecDepth 100000
open Go.RowKit


def lesC (l : List Le) : List Value := (l.map Le.C).flatten
theorem lesC_len (l : List Le) : (lesC l).length = 3 * l.length := by
  induction l with
  | nil => rfl
  | cons m l ih => simp only [lesC, List.map_cons, List.flatten_cons, List.length_append, List.length_cons] at *; rw [ih]; simp [Le.C]; omega
theorem lesC_app (a b : List Le) : lesC (a ++ b) = lesC a ++ lesC b := by simp [lesC]
theorem lesC_split (l : List Le) (i : Nat) (h : i < l.length) : lesC l = lesC (l.take i) ++ l[i].C ++ lesC (l.drop (i + 1)) := by
  have he : l = l.take i ++ [l[i]] ++ l.drop (i + 1) := by simp
  conv => lhs; rw [he]
  rw [lesC_app, lesC_app]; simp [lesC]
theorem lesC_set (l : List Le) (i : Nat) (h : i < l.length) (m : Le) : lesC (l.set i m) = lesC (l.take i) ++ m.C ++ lesC (l.drop (i + 1)) := by
  have hs : l.set i m = l.take i ++ [m] ++ l.drop (i + 1) := by rw [List.set_eq_take_append_cons_drop, if_pos h]; simp
  rw [hs, lesC_app, lesC_app]; simp [lesC]
theorem Blk.setLe {w : World} {b T : Nat} {l : List Le} (h : Blk w b T (lesC l)) {i : Nat} (hi : i < l.length) (m : Le) : Blk (w.setCells b (i * 3) m.C) b T (lesC (l.set i m)) := by
  rw [lesC_split l i hi] at h
  rw [lesC_set l i hi]
  exact h.part (by rw [lesC_len, List.length_take]; omega) rfl
theorem Blk.leAt {w : World} {b T : Nat} {l : List Le} (h : Blk w b T (lesC l)) {i : Nat} {m : Le} (hi : l[i]? = some m) : w.rangeAt b (i * 3) m.C := by
  obtain ⟨hl, rfl⟩ := List.getElem?_eq_some_iff.1 hi
  refine h.rangeIn _ (fun j hj => ?_)
  have hL : (lesC (l.take i)).length = i * 3 := by rw [lesC_len, List.length_take]; omega
  rw [lesC_split l i hl, List.append_assoc, List.getElem?_append_right (by omega), hL, Nat.add_sub_cancel_left, List.getElem?_append_left hj]
def aM : Le := ⟨2147483647, 4611686018427387904, 4611686018427387904⟩
def l3 (a b c : Le) : List Le := [a, b, c]
def bads : List Le := [⟨aM.ep + 1, aM.be, aM.re⟩, ⟨aM.ep, aM.be + 1, aM.re⟩, ⟨aM.ep, aM.be, aM.re + 1⟩]
theorem bads_may : ∀ (i : Nat) (m : Le), bads[i]? = some m → m.may = false := by
  intro i m h
  have hi : i < 3 := by have := (List.getElem?_eq_some_iff.1 h).1; simpa [bads] using this
  rcases (show i = 0 ∨ i = 1 ∨ i = 2 by omega) with rfl | rfl | rfl <;> (cases h; decide)
def fillA (j : Nat) : List Le := List.replicate j aM ++ List.replicate (3 - j) le0
theorem fillA_set (j : Nat) (h : j < 3) : (fillA j).set j aM = fillA (j + 1) := by
  rcases (show j = 0 ∨ j = 1 ∨ j = 2 by omega) with rfl | rfl | rfl <;> rfl
theorem zero59 (w : World) : (Instr.alloc 59 true (.tuple #[])).run Try.prog w = .ok (P0 w.heap.size) (w.alloc (.cells (lesC (fillA 0)).toArray 59)) := by kernel_rfl
section
variable {ops : Array Oper} {rest : List Oper} {op : Oper} {a : Act} {w w0 : World} {Q : Exit → Act → World → Prop} {bs : List (Nat × Nat × List Value)} {X : List Nat}
theorem wpStoreLe {U : Nat} (hgd : op.guard = none) (x y : Operand) (ho : op.op = .store 23 x y) (hd : op.dst = none) (b i n : Nat) (l : List Le) (m : Le) (hx : a.eval x = .pointer (some ⟨b, n * 3, none⟩)) (hy : a.eval y = aggV m.C) (hM : Mm X w0 w bs) (hi : bs[i]? = some (b, U, lesC l)) (hn : n < l.length)
    (h : ∀ W, Mm X w0 W (bs.set i (b, U, lesC (l.set n m))) → wpList Try.prog ops Q rest a W) : wpList Try.prog ops Q (op :: rest) a w := by
  have hB := hM.at i _ hi
  refine wpStoreA row23 hgd x y ho b (n * 3) m.C hx hy rfl (leC_one _) (hB.there (by rw [lesC_len]; omega)) ?_
  rw [hd]
  exact h _ (hM.mut i hi ((Kept.refl _ _).setCells _ _ (by simp)) (hB.setLe hn m))
theorem wpBoxG {T : Nat} (x : Operand) (ho : op.op = .box T x) (hw : Region.wanted op (yielded ops a.tmps) = true) (vs : List Value) (hx : a.eval x = aggV vs)
    (h : ∀ W b, b = w.heap.size → Blk W b T vs → Kept [] w W → wpList Try.prog ops Q rest (a.put op.dst (P0 b)) W) : wpList Try.prog ops Q (op :: rest) a w :=
  BigFrame.wpList_want hw fun K hK => by
    unfold Oper.wp execOp
    simp only [ho, hx, Sem.run_bind, run_boxA, Result.andThen_ok]
    exact hK _ _ (h _ _ rfl (Blk.new w T vs) ((Kept.refl _ _).alloc _))
end
set_option maxHeartbeats 8000000 in
theorem nil_gen (sM : List Int) (w : World) (hsM : sM.length = 64) (h8 : ∀ W, Calls Try.prog 8 #[aggV aM.C] W fun e w' => e = .returned (.tuple #[aggV (u8s sM), .int .i64 0]) ∧ Kept [] W w') : Calls Try.prog 7 #[] w fun e w' => e = .returned (.bool true) ∧ Kept [] w w' := by
  have P8 : ∀ W, Hid (Calls Try.prog 8 #[aggV aM.C] W fun e w' => e = .returned (.tuple #[aggV (u8s sM), .int .i64 0]) ∧ Kept [] W w') := fun W => hide (h8 W)
  have e0 : 0 ≤ aM.ep := by decide
  have e1 : aM.ep ≤ 2147483647 := by decide
  have f0 : 0 ≤ aM.be := by decide
  have f1 : aM.be ≤ 4611686018427387904 := by decide
  have g0 : 0 ≤ aM.re := by decide
  have g1 : aM.re ≤ 4611686018427387904 := by decide
  clear h8
  go_enter Try.func7, Try.ntmps7
  have M : Hid (Mm [] w w []) := hide Mm.init
  go_wp2_with (
    first
    | (refine wpBuildP (by rfl) #[(0, .const (.int .i64 2147483647)), (1, .const (.int .i64 4611686018427387904)), (2, .const (.int .i64 4611686018427387904))] (by rfl) #[(0, .int .i64 2147483647), (1, .int .i64 4611686018427387904), (2, .int .i64 4611686018427387904)] (by kernel_rfl) aM.C (build23p _ _ _ _) ?_
       refine Stp.go ?_))
  constructor
  go_wp2_with (
    first
    | (refine wpNew row23 (le0.C) rfl zero23 1 rfl rfl rfl (.tmp 15) rfl rfl rfl (aM.C) rfl (leC_one _) (by kernel_rfl) (by kernel_rfl) ?_
       intro W1 b1 e1 B1 K1
       replace M : Hid (Mm [] w W1 [(b1, 23, aM.C)]) := hide ((unhide M).new e1 B1 K1)
       clear e1 B1 K1
       refine Stp.go ?_))
  constructor
  go_wp2_with (
    first
    | (refine wpLoadA row23 rfl (.tmp 1) rfl b1 0 rfl (aM.C) rfl ((unhide M).at 0 _ rfl).range ?_
       refine Stp.go ?_))
  constructor
  go_wp2_with (
    first
    | (go_at_call 8
       refine (unhide (P8 _)).mono ?_
       rintro e W2 ⟨rfl, K2⟩
       replace M : Hid (Mm [] w W2 [(b1, 23, aM.C)]) := hide ((unhide M).step K2)
       clear K2
       refine Stp.go ?_))
  constructor
  go_wp2_with (
    first
    | (refine wpNew row25 (u8s (zs 64)) (zl 64) zero25 2 rfl rfl rfl (.tmp 19) rfl rfl rfl (u8s sM) (by rw [u8s_len]; exact hsM) (u8s_one _) (by kernel_rfl) (by kernel_rfl) ?_
       intro W3 b3 e3 B3 K3
       replace M : Hid (Mm [] w W3 [(b1, 23, aM.C), (b3, 25, u8s sM)]) := hide ((unhide M).new e3 B3 K3)
       clear e3 B3 K3
       refine Stp.go ?_))
  constructor
  go_wp2_with (
    first
    | (refine wpAllocW (lesC (fillA 0)) zero59 4 rfl rfl rfl ?_
       intro W4 b4 e4 B4 K4
       replace M : Hid (Mm [] w W4 [(b1, 23, aM.C), (b3, 25, u8s sM), (b4, 59, lesC (fillA 0))]) := hide ((unhide M).new e4 B4 K4)
       clear e4 B4 K4
       refine Stp.go ?_))
  constructor
  go_wp2_with fail
  clear P8
  go_loopw [5] (fun i wr => ∃ j : Nat, j ≤ 3 ∧ i = .int .i64 j ∧ Hid (Mm [] w wr [(b1, 23, aM.C), (b3, 25, u8s sM), (b4, 59, lesC (fillA j))])) (fun i _ => 3 - (intOf i).toNat)
  case atStart => exact ⟨0, by omega, rfl, M⟩
  case round =>
    clear M
    obtain ⟨j, hj, rfl, M⟩ := hrel
    by_cases hlt : j < 3
    · have hjI : (j : Int) < 3 := by omega
      have hd : decide ((j : Int) < 3) = true := by simpa using hjI
      have HLJ : Hid (j < (fillA j).length) := by show _ < _; simp [fillA]; omega
      have HFS := hide (fillA_set j hlt)
      go_wp2_with (
        first
        | (refine wpLoadA row23 rfl (.tmp 1) rfl b1 0 rfl (aM.C) rfl ((unhide M).at 0 _ rfl).range ?_
           refine Stp.go ?_))
      constructor
      go_wp2_with (
        first
        | (refine wpStoreLe rfl (.tmp 27) (.tmp 26) rfl rfl b4 2 j (fillA j) aM rfl rfl (unhide M) rfl (unhide HLJ) ?_
           intro W21 N21
           replace M : Hid (Mm [] w W21 [(b1, 23, aM.C), (b3, 25, u8s sM), (b4, 59, lesC ((fillA j).set j aM))]) := hide N21
           clear N21
           refine Stp.go ?_))
      constructor
      go_wp2_with fail
      rw [unhide HFS] at M
      go_roundw
      case rel => exact ⟨j + 1, by omega, by go_num, M⟩
      case measure => simp [intOf]; omega
    · have hd : decide ((j : Int) < 3) = false := by simp; omega
      have h9 := unhide M
      rw [show j = 3 by omega] at h9
      replace M : Hid (Mm [] w wr [(b1, 23, aM.C), (b3, 25, u8s sM), (b4, 59, lesC (l3 aM aM aM))]) := hide h9
      clear h9
      have c0 := fits_cell ((unhide M).at 2 _ rfl) 0 _ rfl
      go_wp2_with (
        first
        | (refine wpStoreM1 size2 rfl (.tmp 33) (.tmp 31) rfl rfl b4 0 2 (.int .i64 (aM.ep + 1)) ⟨rfl, rfl⟩ rfl rfl (unhide M) rfl (by rw [lesC_len]; decide) ?_
           intro W31 N31
           replace M : Hid (Mm [] w W31 [(b1, 23, aM.C), (b3, 25, u8s sM), (b4, 59, lesC (l3 ⟨aM.ep + 1, aM.be, aM.re⟩ aM aM))]) := hide N31
           clear N31
           clear c0
           have c4 := fits_cell ((unhide M).at 2 _ rfl) 4 _ rfl
           refine Stp.go ?_))
      constructor
      go_wp2_with (
        first
        | (refine wpStoreM1 size2 rfl (.tmp 39) (.tmp 37) rfl rfl b4 4 2 (.int .i64 (aM.be + 1)) ⟨rfl, rfl⟩ rfl rfl (unhide M) rfl (by rw [lesC_len]; decide) ?_
           intro W32 N32
           replace M : Hid (Mm [] w W32 [(b1, 23, aM.C), (b3, 25, u8s sM), (b4, 59, lesC (l3 ⟨aM.ep + 1, aM.be, aM.re⟩ ⟨aM.ep, aM.be + 1, aM.re⟩ aM))]) := hide N32
           clear N32
           clear c4
           have c8 := fits_cell ((unhide M).at 2 _ rfl) 8 _ rfl
           refine Stp.go ?_))
      constructor
      go_wp2_with (
        first
        | (refine wpStoreM1 size2 rfl (.tmp 45) (.tmp 43) rfl rfl b4 8 2 (.int .i64 (aM.re + 1)) ⟨rfl, rfl⟩ rfl rfl (unhide M) rfl (by rw [lesC_len]; decide) ?_
           intro W33 N33
           replace M : Hid (Mm [] w W33 [(b1, 23, aM.C), (b3, 25, u8s sM), (b4, 59, lesC bads)]) := hide N33
           clear N33
           clear c8
           refine Stp.go ?_))
      constructor
      go_wp2_with fail
      go_loopw [6] (fun i wr => ∃ j : Nat, j ≤ 3 ∧ i = .int .i64 j ∧ Hid (Mm [] w wr [(b1, 23, aM.C), (b3, 25, u8s sM), (b4, 59, lesC bads)])) (fun i _ => 3 - (intOf i).toNat)
      case atStart => exact ⟨0, by omega, rfl, M⟩
      case round =>
        clear M hlt hd hj
        obtain ⟨j, hj, rfl, M⟩ := hrel
        by_cases hlt : j < 3
        · have hjI : (j : Int) < 3 := by omega
          have hd : decide ((j : Int) < 3) = true := by simpa using hjI
          obtain ⟨m, hmj⟩ : ∃ m, bads[j]? = some m := ⟨_, List.getElem?_eq_getElem (by simpa [bads] using hlt)⟩
          have HMJ := hide hmj
          have PB : ∀ W, Hid (Calls Try.prog 8 #[aggV m.C] W fun e w' => e = .returned (.tuple #[aggV (u8s (zs 64)), .int .i64 2]) ∧ Kept [] W w') := fun W => hide (put_a m W (bads_may j m hmj))
          clear hmj
          go_wp2_with (
            first
            | (refine wpLoadA row23 rfl (.tmp 52) rfl b4 (j * 3) rfl (m.C) rfl (((unhide M).at 2 _ rfl).leAt (unhide HMJ)) ?_
               refine Stp.go ?_))
          constructor
          go_wp2_with (
            first
            | (go_at_call 8
               refine (unhide (PB _)).mono ?_
               rintro e W41 ⟨rfl, K41⟩
               replace M : Hid (Mm [] w W41 [(b1, 23, aM.C), (b3, 25, u8s sM), (b4, 59, lesC bads)]) := hide ((unhide M).step K41)
               clear K41
               refine Stp.go ?_))
          constructor
          go_wp2_with (
            first
            | (refine wpNew row25 (u8s (zs 64)) (zl 64) zero25 7 rfl rfl rfl (.tmp 55) rfl rfl rfl (u8s (zs 64)) (zl 64) (u8s_one _) (by kernel_rfl) (by kernel_rfl) ?_
               intro W42 b42 e42 B42 K42
               replace M : Hid (Mm [] w W42 [(b1, 23, aM.C), (b3, 25, u8s sM), (b4, 59, lesC bads), (b42, 25, u8s (zs 64))]) := hide ((unhide M).new e42 B42 K42)
               clear e42 B42 K42
               refine Stp.go ?_))
          constructor
          go_wp2_with (
            first
            | (go_at_call 11
               refine (num11 _ _).mono ?_
               rintro e W43 ⟨rfl, q43⟩
               replace q43 := q43.symm
               subst q43
               refine Stp.go ?_))
          constructor
          go_wp2_with fail
          go_roundw
          case rel => exact ⟨j + 1, by omega, by go_num, hide ((unhide M).less (by simp))⟩
          case measure => simp [intOf]; omega
        · have hd : decide ((j : Int) < 3) = false := by simp; omega
          go_wp2_with (
            first
            | (go_at_call 15
               refine (new_yes 8 100 _ (by decide)).mono ?_
               rintro e W61 ⟨b9, rfl, eb, B61, K61⟩
               replace M : Hid (Mm [] w W61 [(b1, 23, aM.C), (b3, 25, u8s sM), (b4, 59, lesC bads), (b9, 65, (Wt.mk 8 100 lk8).C)]) := hide ((unhide M).new eb B61 K61)
               clear eb B61 K61
               refine Stp.go ?_))
          constructor
          go_wp2_with (
            first
            | (go_at_call 15
               refine (new_no 9 1 _ (by decide)).mono ?_
               rintro e W62 ⟨rfl, q62⟩
               replace q62 := q62.symm
               subst q62
               refine Stp.go ?_))
          constructor
          go_wp2_with (
            first
            | (go_at_call 15
               refine (new_no 1 101 _ (by decide)).mono ?_
               rintro e W63 ⟨rfl, q63⟩
               replace q63 := q63.symm
               subst q63
               refine Stp.go ?_))
          constructor
          go_wp2_with (
            first
            | (go_at_call 11
               refine (num11 _ _).mono ?_
               rintro e W64 ⟨rfl, q64⟩
               replace q64 := q64.symm
               subst q64
               refine Stp.go ?_))
          constructor
          go_wp2_with (
            first
            | (go_at_call 11
               refine (num11 _ _).mono ?_
               rintro e W65 ⟨rfl, q65⟩
               replace q65 := q65.symm
               subst q65
               refine Stp.go ?_))
          constructor
          go_wp2_with (
            first
            | (go_at_call 11
               refine (num11 _ _).mono ?_
               rintro e W66 ⟨rfl, q66⟩
               replace q66 := q66.symm
               subst q66
               refine Stp.go ?_))
          constructor
          go_wp2_with (
            first
            | (go_at_call 11
               refine (num11 _ _).mono ?_
               rintro e W67 ⟨rfl, q67⟩
               replace q67 := q67.symm
               subst q67
               refine Stp.go ?_))
          constructor
          go_wp2_with (
            first
            | (go_at_call 23
               refine (nothing23 (.pointer none) _ (fun W _ => none_nil W)).mono ?_
               rintro e W68 ⟨rfl, K68⟩
               replace M : Hid (Mm [] w W68 [(b1, 23, aM.C), (b3, 25, u8s sM), (b4, 59, lesC bads), (b9, 65, (Wt.mk 8 100 lk8).C)]) := hide ((unhide M).step K68)
               clear K68
               refine Stp.go ?_))
          constructor
          go_wp2_with (
            first
            | (refine wpBuildG #[] rfl rfl #[] (by kernel_rfl) wt0.C (build65 _) ?_
               refine Stp.go ?_))
          constructor
          go_wp2_with (
            first
            | (refine wpBoxG (.tmp 92) rfl rfl wt0.C rfl ?_
               intro W69 bz e69 B69 K69
               replace M : Hid (Mm [] w W69 [(b1, 23, aM.C), (b3, 25, u8s sM), (b4, 59, lesC bads), (b9, 65, (Wt.mk 8 100 lk8).C), (bz, 65, wt0.C)]) := hide ((unhide M).new e69 B69 K69)
               clear e69 B69 K69
               refine Stp.go ?_))
          constructor
          go_wp2_with (
            first
            | (go_at_call 23
               refine (nothing23 (P0 bz) _ (fun W hW => none_z wt0 bz W (((unhide M).at 4 _ rfl).kept hW (by simp)) rfl)).mono ?_
               rintro e W70 ⟨rfl, K70⟩
               replace M : Hid (Mm [] w W70 [(b1, 23, aM.C), (b3, 25, u8s sM), (b4, 59, lesC bads), (b9, 65, (Wt.mk 8 100 lk8).C), (bz, 65, wt0.C)]) := hide ((unhide M).step K70)
               clear K70
               refine Stp.go ?_))
          constructor
          go_wp2_with (
            first
            | (go_at_call 19
               refine (same_yn _ _ _ (none_is (Wt.mk 8 100 lk8) b9 _ ((unhide M).at 3 _ rfl) (by decide)) (none_nil _)).mono ?_
               rintro e W71 ⟨rfl, q71⟩
               replace q71 := q71.symm
               subst q71
               refine Stp.go ?_))
          constructor
          go_wp2_with (
            first
            | (go_at_call 13
               refine (known13 _).mono ?_
               rintro e W72 ⟨rfl, K72⟩
               replace M : Hid (Mm [] w W72 [(b1, 23, aM.C), (b3, 25, u8s sM), (b4, 59, lesC bads), (b9, 65, (Wt.mk 8 100 lk8).C), (bz, 65, wt0.C)]) := hide ((unhide M).step K72)
               clear K72
               refine Stp.go ?_))
          constructor
          go_wp2_with fail
          go_ret
          exact ⟨rfl, (unhide M).kept⟩
theorem nil7 (w : World) : Calls Try.prog 7 #[] w fun e w' => e = .returned (.bool true) ∧ Kept [] w w' :=
  nil_gen (secL aM) w (secL_len _) (fun W => put_c aM W (by decide) (by decide))

end Go.Proofs.Ythidiolgngkffaa
