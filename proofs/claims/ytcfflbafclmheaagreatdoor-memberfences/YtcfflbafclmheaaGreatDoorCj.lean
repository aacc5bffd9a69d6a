/-
  Put, of a view that has a number.
-/
import Derived.Test.YtcfflbafclmheaaGreatDoorCi
import Derived.Test.YtcfflbafclmheaaGreatDoorCg

/-
  Numbers as bytes: putNumber, number, epochOf.
-/
namespace Go.Proofs.YtcfflbafclmheaaGreatDoor.Vi
set_option maxRecDepth 100000
set_option maxRecDepth 100000
open Go.RowKit


/-- The k lowest bytes of a number, the highest first. -/
def be : Nat → Int → List Int
  | 0, _ => []
  | k + 1, n => be k (n / 256) ++ [n % 256]
theorem be_len : ∀ (k : Nat) (n : Int), (be k n).length = k
  | 0, _ => rfl
  | k + 1, n => by rw [be, List.length_append, be_len k]; rfl
theorem be_byte : ∀ (k : Nat) (n : Int), ∀ x ∈ be k n, 0 ≤ x ∧ x < 256
  | 0, _ => by simp [be]
  | k + 1, n => by
    intro x hx
    rw [be] at hx
    rcases List.mem_append.1 hx with h | h
    · exact be_byte k _ x h
    · simp at h; omega
theorem u8s_set (l : List Int) (i : Nat) (x : Int) : (u8s l).set i (.int .u8 x) = u8s (l.set i x) := by simp [u8s, List.map_set]
theorem set_at (A B : List Int) (x y : Int) (n : Nat) (h : A.length = n) : (A ++ x :: B).set n y = A ++ y :: B := by
  subst h
  rw [List.set_append_right _ _ (Nat.le_refl _)]
  simp
section
variable {ops : Array Oper} {rest : List Oper} {op : Oper} {a : Act} {w : World} {Q : Exit → Act → World → Prop}
theorem wpStoreB {T : Nat} (hs : (Tryz.prog.info? T).map (·.size) = some 1) (hgd : op.guard = none) (x y : Operand) (ho : op.op = .store T x y) (hd : op.dst = none) (b off : Nat) (v : Value) (h1 : One v) (hx : a.eval x = .pointer (some ⟨b, off, none⟩)) (hy : a.eval y = v) {TT : Nat} {us : List Value} (hB : Blk w b TT us) (hl : off < us.length)
    (h : ∀ W, Blk W b TT (us.set off v) → Kept [b] w W → wpList Tryz.prog ops Q rest a W) : wpList Tryz.prog ops Q (op :: rest) a w :=
  wpList_plain hgd fun K hK => by
    have hst := storeVar1 hs hB hl v h1.1 h1.2
    unfold Oper.wp execOp
    simp only [ho, hx, hy, Instr.storeAt, Instr.sureAddr, Sem.run_bind, Sem.run_pure, Result.andThen_ok, hst]
    refine hK _ _ ?_
    rw [hd]
    exact h _ (hB.set v) ((Kept.refl _ _).setCell (by simp) v)
end
theorem epoch33 (b : Nat) (n : Nat) (w : World) (hn : n < 8) : Calls Tryz.prog 156 #[.slice (some ⟨b, 0, none⟩) 64 64, .int .i64 n] w fun e w' => e = .returned (.slice (some ⟨b, 12 + 4 * n, none⟩) 4 (52 - 4 * n)) ∧ w' = w := by
  have h1 : (n : Int) < 8 := by omega
  have h0 : 0 ≤ (n : Int) := by omega
  go_enter Tryz.func156, Tryz.ntmps156
  go_wp2_with fail
  go_ret
  refine ⟨?_, rfl⟩
  show Ending.returned (Value.slice _ (12 + 4 * n + 4 - (12 + 4 * n)) (64 - (12 + 4 * n))) = _
  rw [show 12 + 4 * n + 4 - (12 + 4 * n) = 4 by omega, show 64 - (12 + 4 * n) = 52 - 4 * n by omega]
set_option maxHeartbeats 2000000 in
theorem put32 (b k o : Nat) (n : Int) (pre mid post : List Int) (w : World) (hB : Blk w b 59 (u8s (pre ++ mid ++ post))) (hp : pre.length = o) (hm : mid.length = k) (c : Nat) (hk : k ≤ 8) (hn : I64 n) : Calls Tryz.prog 157 #[.slice (some ⟨b, o, none⟩) k c, .int .i64 n] w fun e w' => e = .returned (.tuple #[]) ∧ Blk w' b 59 (u8s (pre ++ be k n ++ post)) ∧ Kept [b] w w' := by
  have HB := hide hB
  have HK := hide (Kept.refl [b] w)
  have hkI : (k : Int) ≤ 8 := by omega
  have HP := hide hp
  have HM := hide hm
  have HN := hide hn
  clear hB hp hm hn
  go_enter Tryz.func157, Tryz.ntmps157
  go_wp2_with fail
  go_loopw [1, 4] (fun xn xi wr => ∃ (j : Nat) (q : Int) (tl : List Int), j ≤ k ∧ xn = .int .i64 q ∧ xi = .int .i64 ((j : Int) - 1) ∧ Hid (I64 q) ∧ Hid (be k n = be j q ++ tl) ∧ Hid (Blk wr b 59 (u8s (pre ++ (mid.take j ++ tl) ++ post))) ∧ Hid (Kept [b] w wr)) (fun _ i _ => (intOf i + 1).toNat)
  case atStart => exact ⟨k, n, [], Nat.le_refl _, rfl, rfl, HN, by show _ = _; simp, by rw [List.take_of_length_le (by rw [unhide HM]; exact Nat.le_refl _), List.append_nil]; exact HB, HK⟩
  case round =>
    clear HB HK
    obtain ⟨j, q, tl, hj, rfl, rfl, HQ, HE, HB, HK⟩ := hrel
    cases j with
    | zero =>
      have hd : decide (0 ≤ ((0 : Nat) : Int) - 1) = false := by decide
      go_wp2_with fail
      go_end0
      have h9 := unhide HE
      have h8 := unhide HB
      rw [be, List.nil_append] at h9
      rw [List.take_zero, List.nil_append] at h8
      rw [h9]
      exact ⟨rfl, h8, unhide HK⟩
    | succ j =>
      have e1 : ((j + 1 : Nat) : Int) - 1 = (j : Int) := by omega
      rw [e1]
      clear e1
      have hjk : (j : Int) < (k : Int) := by omega
      obtain ⟨x, hx⟩ : ∃ x, mid[j]? = some x := ⟨_, List.getElem?_eq_getElem (by have := unhide HM; omega)⟩
      have hl := unhide HB
      have hlen : (pre ++ mid.take j).length = o + j := by
        rw [List.length_append, List.length_take, unhide HP, unhide HM]; omega
      have he : pre ++ (mid.take (j + 1) ++ tl) ++ post = (pre ++ mid.take j) ++ x :: (tl ++ post) := by
        rw [List.take_add_one, hx]; simp
      rw [he] at hl
      have HB2 := hide hl
      have HLT : Hid (o + j < (u8s ((pre ++ mid.take j) ++ x :: (tl ++ post))).length) := by
        show _ < _
        rw [u8s_len, List.length_append, hlen]; simp
      have HS : Hid ((u8s ((pre ++ mid.take j) ++ x :: (tl ++ post))).set (o + j) (.int .u8 (q % 256)) = u8s (pre ++ (mid.take j ++ (q % 256) :: tl) ++ post)) := by
        show _ = _
        rw [u8s_set, set_at _ _ _ _ _ hlen]
        simp
      have hq := unhide HQ
      obtain ⟨q1, q2⟩ := hq
      have HQ2 : Hid (I64 (q / 256)) := by constructor <;> omega
      have HE2 : Hid (be k n = be j (q / 256) ++ (q % 256 :: tl)) := by
        show _ = _
        rw [unhide HE, be]; simp
      clear hx hl hlen he HB HE HQ
      go_wp2_with (
        first
        | (refine wpStoreB size5 (by rfl) (.tmp 16) (.tmp 15) (by rfl) (by rfl) b (o + j) (.int .u8 (q % 256)) ⟨rfl, rfl⟩ (by rfl) (by rfl) (unhide HB2) (unhide HLT) ?_
           intro W9 B9 K9
           rw [unhide HS] at B9
           have HB9 := hide B9
           have HK9 : Hid (Kept [b] w W9) := (unhide HK).trans K9
           clear B9 K9
           refine Stp.go ?_))
      constructor
      go_wp2_with fail
      go_roundw
      case rel => exact ⟨j, q / 256, q % 256 :: tl, by omega, rfl, rfl, HQ2, HE2, HB9, HK9⟩
      case measure => simp [intOf]
/-- The number that bytes say, as an int64. -/
def ofB : Int → List Int → Int
  | n, [] => n
  | n, x :: l => ofB (wrap64 (n * 256 + x)) l
theorem w64_i (n : Int) : I64 (wrap64 n) := by unfold wrap64; constructor <;> omega
theorem or_byte (q x : Int) (h0 : 0 ≤ x) (h1 : x < 256) : bits BinOp.or IntKind.i64 (wrap64 (q * 256)) x = wrap64 (q * 256 + x) := by
  have hx : (BitVec.ofInt 64 x).toNat = x.toNat := by rw [BitVec.toNat_ofInt]; omega
  obtain ⟨m, hm⟩ : ∃ m : Nat, (BitVec.ofInt 64 (wrap64 (q * 256))).toNat = 2 ^ 8 * m ∧ ((2 ^ 8 * m : Nat) : Int) = (q * 256) % 18446744073709551616 := by
    refine ⟨(q % 72057594037927936).toNat, ?_, ?_⟩
    · rw [BitVec.toNat_ofInt]; unfold wrap64; omega
    · omega
  show IntKind.i64.wrap ((BitVec.ofInt 64 (wrap64 (q * 256)) ||| BitVec.ofInt 64 x).toNat : Int) = _
  rw [BitVec.toNat_or, hx, hm.1, ← Nat.two_pow_add_eq_or_of_lt (by omega), IntKind.wrap_i64]
  have := hm.2
  unfold wrap64
  omega
set_option maxHeartbeats 2000000 in
theorem number41 (b k o : Nat) (pre mid post : List Int) (w : World) (hB : Blk w b 59 (u8s (pre ++ mid ++ post))) (hp : pre.length = o) (hm : mid.length = k) (hy : ∀ x ∈ mid, 0 ≤ x ∧ x < 256) (c : Nat) (hk : k ≤ 8) : Calls Tryz.prog 155 #[.slice (some ⟨b, o, none⟩) k c] w fun e w' => e = .returned (.int .i64 (ofB 0 mid)) ∧ w' = w := by
  have HB := hide hB
  have hkI : (k : Int) ≤ 8 := by omega
  have HP := hide hp
  have HM := hide hm
  have HY := hide hy
  clear hB hp hm hy
  go_enter Tryz.func155, Tryz.ntmps155
  go_wp2_with fail
  go_loopw [3, 8] (fun xn xi wr => ∃ (j : Nat) (q : Int), j ≤ k ∧ xn = .int .i64 q ∧ xi = .int .i64 j ∧ Hid (I64 q) ∧ Hid (ofB 0 mid = ofB q (mid.drop j)) ∧ Hid (wr = w)) (fun _ i _ => k - (intOf i).toNat)
  case atStart => exact ⟨0, 0, by omega, rfl, rfl, ⟨by decide, by decide⟩, by show _ = _; simp, rfl⟩
  case round =>
    obtain ⟨j, q, hj, rfl, rfl, HQ, HE, HW⟩ := hrel
    by_cases hlt : j < k
    · obtain ⟨x, hx⟩ : ∃ x, mid[j]? = some x := ⟨_, List.getElem?_eq_getElem (by have := unhide HM; omega)⟩
      have hjk : (j : Int) < (k : Int) := by omega
      have hd : decide ((j : Int) < (k : Int)) = true := by simpa using hjk
      have hx8 := unhide HY x (List.mem_of_getElem? hx)
      have hc : wr.cell? ⟨b, o + j, none⟩ = some (.int .u8 x) := by
        rw [unhide HW, (unhide HB).cell]
        simp only [u8s, List.getElem?_map]
        rw [List.append_assoc, List.getElem?_append_right (by have := unhide HP; omega), unhide HP, Nat.add_sub_cancel_left, List.getElem?_append_left (by have := unhide HM; omega), hx]
        rfl
      have hq := unhide HQ
      obtain ⟨q1, q2⟩ := hq
      obtain ⟨x1, x2⟩ := hx8
      have HO : Hid (bits BinOp.or IntKind.i64 (wrap64 (q * 256)) x = wrap64 (q * 256 + x)) := or_byte q x x1 x2
      have HE2 : Hid (ofB 0 mid = ofB (wrap64 (q * 256 + x)) (mid.drop (j + 1))) := by
        show _ = _
        obtain ⟨h1, h2⟩ := List.getElem?_eq_some_iff.1 hx
        rw [unhide HE, List.drop_eq_getElem_cons h1, h2, ofB]
      clear hx HE
      go_wp2_with fail
      go_roundw
      case rel => exact ⟨j + 1, wrap64 (q * 256 + x), by omega, by rw [unhide HO], by go_num, w64_i _, HE2, HW⟩
      case measure => simp [intOf]; omega
    · have hd : decide ((j : Int) < (k : Int)) = false := by simp; omega
      go_wp2_with fail
      go_ret
      have h9 := unhide HE
      rw [List.drop_of_length_le (by have := unhide HM; omega), ofB] at h9
      exact ⟨by rw [h9]; rfl, unhide HW⟩

end Go.Proofs.YtcfflbafclmheaaGreatDoor.Vi

/-
  Put, of a view that has a number.
-/
namespace Go.Proofs.YtcfflbafclmheaaGreatDoor.Vi
set_option maxRecDepth 100000
set_option maxRecDepth 100000
open Go.RowKit


theorem cg32 (vs : Array Value) (w : World) : (callFunc 157 vs).run Tryz.prog w = .ok (.enter 157 vs) w := by kernel_rfl
theorem cg33 (vs : Array Value) (w : World) : (callFunc 156 vs).run Tryz.prog w = .ok (.enter 156 vs) w := by kernel_rfl
/-- The members' bits, from the place i on. -/
def bitF : Nat → List (Bool × Int) → Nat
  | _, [] => 0
  | i, m :: l => (if m.1 then 2 ^ i else 0) + bitF (i + 1) l
/-- Their epochs. -/
def epB (l : List (Bool × Int)) : List Int := (l.map (fun m => be 4 m.2)).flatten
theorem epB_len (l : List (Bool × Int)) : (epB l).length = 4 * l.length := by
  induction l with
  | nil => rfl
  | cons m l ih => simp only [epB, List.map_cons, List.flatten_cons, List.length_append, be_len, List.length_cons] at *; omega
theorem epB_app (a b : List (Bool × Int)) : epB (a ++ b) = epB a ++ epB b := by simp [epB]
theorem bitF_take : ∀ (l : List (Bool × Int)) (i j : Nat) (m : Bool × Int), l[j]? = some m → bitF i (l.take (j + 1)) = bitF i (l.take j) + (if m.1 then 2 ^ (i + j) else 0) := by
  intro l
  induction l with
  | nil => intro i j m h; simp at h
  | cons x l ih =>
    intro i j m h
    cases j with
    | zero => simp at h; subst h; simp [bitF]
    | succ j =>
      have := ih (i + 1) j m (by simpa using h)
      rw [List.take_succ_cons, List.take_succ_cons, bitF, bitF, this, show i + 1 + j = i + (j + 1) by omega]
      omega
theorem bitF_lt : ∀ (l : List (Bool × Int)) (i : Nat), bitF i l + 2 ^ i ≤ 2 ^ (i + l.length) := by
  intro l
  induction l with
  | nil => intro i; simp [bitF]
  | cons m l ih =>
    intro i
    have := ih (i + 1)
    have h2 : 2 ^ (i + 1) = 2 * 2 ^ i := by rw [Nat.pow_succ]; omega
    rw [bitF, List.length_cons, show i + (l.length + 1) = i + 1 + l.length by omega]
    split <;> omega
/-- A view's sector, as far as it is written: the head, the number, so many epochs, noughts. -/
def secL (o f A : Int) (n : Int) (l : List (Bool × Int)) (z : Nat) : List Int := [193, o, f, A] ++ be 8 n ++ epB l ++ zs z
def secV (v : Vw) : List Int := secL (if v.op then 1 else 0) (v.fd % 256) (bitF 0 v.ms) v.nu v.ms 20
theorem secL_len (o f A n : Int) (l : List (Bool × Int)) (z : Nat) : (secL o f A n l z).length = 12 + 4 * l.length + z := by
  simp [secL, be_len, epB_len, zs]; omega
/-- One block turns at the operation k of a region. -/
@[reducible] def SP (w : World) (mk : List Int → List (Nat × Nat × List Value)) (S0 S1 : List Int) (k : Nat) (d : Nat → Bool) (_ : Nat → Value) (W : World) : Prop :=
  ∃ S, Mm w W (mk S) ∧ (d k = false → S = S0) ∧ (d k = true → S = S1)
theorem SP.loc {w : World} {mk : List Int → List (Nat × Nat × List Value)} {S0 S1 : List Int} {k : Nat} : ∀ d d' vs vs' W, (∀ i ∈ [k], d i = d' i ∧ vs i = vs' i) → SP w mk S0 S1 k d vs W → SP w mk S0 S1 k d' vs' W := by
  intro d d' vs vs' W H h
  have e0 := (H k (by simp)).1
  unfold SP at h ⊢
  rw [← e0]
  exact h
@[reducible] def SQ (w : World) (mk : List Int → List (Nat × Nat × List Value)) (S0 S1 : List Int) (d : Nat → Bool) (_ : Nat → Value) (W : World) : Prop :=
  ∃ S, Mm w W (mk S) ∧ (d 6 = false → S = S0) ∧ (d 6 = true → S = S1) ∧ (d 6 = true → d 1 = true) ∧ (d 4 = true → d 1 = true)
theorem SQ.loc {w : World} {mk : List Int → List (Nat × Nat × List Value)} {S0 S1 : List Int} : ∀ d d' vs vs' W, (∀ i ∈ [1, 4, 6], d i = d' i ∧ vs i = vs' i) → SQ w mk S0 S1 d vs W → SQ w mk S0 S1 d' vs' W := by
  intro d d' vs vs' W H h
  have e0 := (H 6 (by simp)).1
  have e1 := (H 1 (by simp)).1
  have e2 := (H 4 (by simp)).1
  unfold SQ at h ⊢
  rw [← e0, ← e1, ← e2]
  exact h
section
variable {o : Oper} {a : Act} {w : World} {K : Act → World → Prop} {Q : Exit → Act → World → Prop}
theorem o_idx28 (x : Operand) (c : Nat) (hc : c < 64) (ho : o.op = .indexAddr 59 x (.const (.int .i64 (c : Int)))) (b : Nat) (hx : a.eval x = P0 b) (h : K (a.put o.dst (.pointer (some ⟨b, c, none⟩))) w) : o.wp Tryz.prog a w K Q := by
  have hc2 : (c : Int) < 64 := by omega
  unfold Oper.wp execOp
  simp only [ho, hx]
  simp [go_sem, Act.eval, hc2]
  exact h
theorem o_sl28 (x : Operand) (ho : o.op = .slice 59 x (some (.const (.int .i64 4))) (some (.const (.int .i64 12))) none) (b : Nat) (hx : a.eval x = P0 b) (h : K (a.put o.dst (.slice (some ⟨b, 4, none⟩) 8 60)) w) : o.wp Tryz.prog a w K Q := by
  unfold Oper.wp execOp
  simp only [ho, hx]
  simp [go_sem, Act.eval]
  exact h
theorem o_all28 (x : Operand) (ho : o.op = .slice 59 x none none none) (b : Nat) (hx : a.eval x = P0 b) (h : K (a.put o.dst (.slice (some ⟨b, 0, none⟩) 64 64)) w) : o.wp Tryz.prog a w K Q := by
  unfold Oper.wp execOp
  simp only [ho, hx]
  simp [go_sem]
  exact h
theorem o_fld26a (x : Operand) (ho : o.op = .fieldAddr 29 x 0) (b : Nat) (hx : a.eval x = P0 b) (h : K (a.put o.dst (.pointer (some ⟨b, 0, none⟩))) w) : o.wp Tryz.prog a w K Q := by
  unfold Oper.wp execOp
  simp only [ho, hx]
  simp [go_sem]
  exact h
theorem o_fld23_1 (x : Operand) (ho : o.op = .fieldAddr 26 x 1) (b : Nat) (hx : a.eval x = P0 b) (h : K (a.put o.dst (.pointer (some ⟨b, 1, none⟩))) w) : o.wp Tryz.prog a w K Q := by
  unfold Oper.wp execOp
  simp only [ho, hx]
  simp [go_sem]
  exact h
theorem o_shl1 (y : Operand) (ho : o.op = .binOp .shl 5 (.const (.int .u8 1)) y 3) (j : Nat) (hj : j < 8) (hy : a.eval y = .int .i64 j) (h : K (a.put o.dst (.int .u8 ((2 ^ j : Nat) : Int))) w) : o.wp Tryz.prog a w K Q := by
  unfold Oper.wp execOp
  simp only [ho, hy]
  rcases (show j = 0 ∨ j = 1 ∨ j = 2 ∨ j = 3 ∨ j = 4 ∨ j = 5 ∨ j = 6 ∨ j = 7 by omega) with rfl | rfl | rfl | rfl | rfl | rfl | rfl | rfl
  all_goals
    simp [go_sem, Act.eval] at h ⊢
    exact h
theorem or_bit (A j : Nat) (hA : A < 2 ^ j) (hj : j < 8) : bits BinOp.or IntKind.u8 (A : Int) ((2 ^ j : Nat) : Int) = ((A + 2 ^ j : Nat) : Int) := by
  have h2 : 2 ^ j ≤ 128 := by
    rcases (show j = 0 ∨ j = 1 ∨ j = 2 ∨ j = 3 ∨ j = 4 ∨ j = 5 ∨ j = 6 ∨ j = 7 by omega) with rfl | rfl | rfl | rfl | rfl | rfl | rfl | rfl <;> decide
  have ha : (BitVec.ofInt 8 (A : Int)).toNat = A := by rw [BitVec.toNat_ofInt]; omega
  have hb : (BitVec.ofInt 8 ((2 ^ j : Nat) : Int)).toNat = 2 ^ j := by rw [BitVec.toNat_ofInt]; omega
  show IntKind.u8.wrap ((BitVec.ofInt 8 (A : Int) ||| BitVec.ofInt 8 ((2 ^ j : Nat) : Int)).toNat : Int) = _
  have hor := Nat.two_pow_add_eq_or_of_lt hA 1
  rw [Nat.mul_one] at hor
  rw [BitVec.toNat_or, ha, hb, Nat.or_comm, ← hor]
  have key : ∀ n : Nat, n < 256 → IntKind.u8.wrap (n : Int) = (n : Int) := by
    intro n hn
    simp [IntKind.wrap, IntKind.bits, IntKind.signed]
    omega
  rw [key _ (by omega), Nat.add_comm]
theorem o_or8 (x y : Operand) (ho : o.op = .binOp .or 5 x y 5) (A j : Nat) (hA : A < 2 ^ j) (hj : j < 8) (hx : a.eval x = .int .u8 (A : Int)) (hy : a.eval y = .int .u8 ((2 ^ j : Nat) : Int)) (h : K (a.put o.dst (.int .u8 ((A + 2 ^ j : Nat) : Int))) w) : o.wp Tryz.prog a w K Q := by
  rw [← or_bit A j hA hj] at h
  unfold Oper.wp execOp
  simp only [ho, hx, hy]
  simp [go_sem] at h ⊢
  exact h
theorem o_st5 (x y : Operand) (ho : o.op = .store 5 x y) (b i TT : Nat) (us : List Value) (n : Int) (hx : a.eval x = .pointer (some ⟨b, i, none⟩)) (hy : a.eval y = .int .u8 n) (hB : Blk w b TT us) (hi : i < us.length)
    (h : ∀ W, Blk W b TT (us.set i (.int .u8 n)) → Kept [b] w W → K (a.put o.dst undef) W) : o.wp Tryz.prog a w K Q := by
  have hst := storeVar1 size5 hB hi (.int .u8 n) rfl rfl
  unfold Oper.wp execOp
  simp only [ho, hx, hy, Instr.storeAt, Instr.sureAddr, Sem.run_bind, Sem.run_pure, Result.andThen_ok, hst]
  exact h _ (hB.set (.int .u8 n)) ((Kept.refl _ _).setCell (by simp) _)
end

end Go.Proofs.YtcfflbafclmheaaGreatDoor.Vi
