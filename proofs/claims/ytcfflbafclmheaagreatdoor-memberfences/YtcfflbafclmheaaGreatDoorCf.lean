/-
  Get; the document's number.
-/
import Derived.Test.YtcfflbafclmheaaGreatDoorCe

/-
  Laws for single operations.
-/
namespace Go.Proofs.YtcfflbafclmheaaGreatDoor.Le
set_option maxRecDepth 100000
set_option maxRecDepth 100000
open Go.RowKit

section
variable {o : Oper} {a : Act} {w : World} {K : Act → World → Prop} {Q : Exit → Act → World → Prop} {ops : Array Oper} {rest : List Oper} {op : Oper}
theorem keepG {St : (Nat → Bool) → (Nat → Value) → World → Prop} {l : Array Bool} {vs : Nat → Value} {j : Nat} {v : Value} {w : World} (sp : List Nat) (hloc : ∀ b b' vs vs' W, (∀ i ∈ sp, b i = b' i ∧ vs i = vs' i) → St b vs W → St b' vs' W) (hj : j < l.size) (hn : sp.all (fun i => i != j) = true) (h : St (fun i => l.getD i false) vs w) : St (fun i => (l.setIfInBounds j true).getD i false) (fun i => if i = j then v else vs i) w := by
  refine hloc _ _ _ _ _ (fun i hi => ?_) h
  have hne : i ≠ j := by have := List.all_eq_true.1 hn i hi; simpa using this
  exact ⟨by rw [getD_setD hj]; simp [hne], by simp [hne]⟩
theorem nextG {St : (Nat → Bool) → (Nat → Value) → World → Prop} {l : Array Bool} {vs : Nat → Value} {j : Nat} {v : Value} {w : World} (hj : j < l.size) (h : St (fun i => if i = j then true else l.getD i false) (fun i => if i = j then v else vs i) w) : St (fun i => (l.setIfInBounds j true).getD i false) (fun i => if i = j then v else vs i) w := by
  have e : (fun i => (l.setIfInBounds j true).getD i false) = (fun i => if i = j then true else l.getD i false) := by
    funext i
    exact getD_setD hj false
  rw [e]
  exact h
theorem wpLoadG {ops : Array Oper} {rest : List Oper} {op : Oper} {a : Act} {w : World} {Q : Exit → Act → World → Prop} {T n : Nat} (hT : Row T n) (x : Operand) (ho : op.op = .load T x) (hw : Region.wanted op (yielded ops a.tmps) = true) (b off : Nat) (hx : a.eval x = .pointer (some ⟨b, off, none⟩)) (vs : List Value) (hl : vs.length = n) (hA : w.rangeAt b off vs)
    (h : wpList Tryz.prog ops Q rest (a.put op.dst (aggV vs)) w) : wpList Tryz.prog ops Q (op :: rest) a w :=
  BigFrame.wpList_want hw fun _ hK => wp_loadA hT x ho b off hx vs hl hA (hK _ _ h)
theorem o_eqlA (T r : Nat) (hG : Tryz.prog.eqGuardType Tryz.prog.depth T = false) {o : Oper} {a : Act} {w : World} {K : Act → World → Prop} {Q : Exit → Act → World → Prop} (x y : Operand) (ho : o.op = .binOp .eql T x y r) (vs us : List Value) (hx : a.eval x = aggV vs) (hy : a.eval y = aggV us) (c : Bool)
    (he : (Op.equal T (aggV vs) (aggV us)).run Tryz.prog w = .ok c w) (h : K (a.put o.dst (.bool c)) w) : o.wp Tryz.prog a w K Q := by
  unfold Oper.wp execOp
  simp only [aggV] at he hx hy
  have hg : (eqGuard .eql T x y (.agg vs.toArray) (.agg us.toArray)).run Tryz.prog w = .ok () w := by simp [eqGuard, Sem.run_bind, hG]
  have hb : (binOp BinOp.eql T (.agg vs.toArray) (.agg us.toArray)).run Tryz.prog w = .ok (.bool c) w := by simp only [binOp, Sem.run_bind, he, Result.andThen_ok, Sem.run_pure]
  simp only [ho, hx, hy, Sem.run_bind, hg, hb, Result.andThen_ok]
  exact h
theorem o_neqA (T r : Nat) (hG : Tryz.prog.eqGuardType Tryz.prog.depth T = false) {o : Oper} {a : Act} {w : World} {K : Act → World → Prop} {Q : Exit → Act → World → Prop} (x y : Operand) (ho : o.op = .binOp .neq T x y r) (vs us : List Value) (hx : a.eval x = aggV vs) (hy : a.eval y = aggV us) (c : Bool)
    (he : (Op.equal T (aggV vs) (aggV us)).run Tryz.prog w = .ok c w) (h : K (a.put o.dst (.bool (!c))) w) : o.wp Tryz.prog a w K Q := by
  unfold Oper.wp execOp
  simp only [aggV] at he hx hy
  have hg : (eqGuard .neq T x y (.agg vs.toArray) (.agg us.toArray)).run Tryz.prog w = .ok () w := by simp [eqGuard, Sem.run_bind, hG]
  have hb : (binOp BinOp.neq T (.agg vs.toArray) (.agg us.toArray)).run Tryz.prog w = .ok (.bool (!c)) w := by simp only [binOp, Sem.run_bind, he, Result.andThen_ok, Sem.run_pure]
  simp only [ho, hx, hy, Sem.run_bind, hg, hb, Result.andThen_ok]
  exact h
theorem o_nil (x : Operand) (ho : o.op = .nilCheck x) (p : Addr) (hx : a.eval x = .pointer (some p)) (h : K (a.put o.dst (.pointer (some p))) w) : o.wp Tryz.prog a w K Q := by
  unfold Oper.wp execOp
  simp only [ho, hx]
  simp [go_sem]
  exact h
theorem o_load3 (x : Operand) (ho : o.op = .load 3 x) (p : Addr) (v : Value) (hx : a.eval x = .pointer (some p)) (hc : w.cell? p = some v) (h : K (a.put o.dst v) w) : o.wp Tryz.prog a w K Q := by
  unfold Oper.wp execOp
  simp only [ho, hx]
  simp [go_sem, hc]
  exact h
theorem o_load4 (x : Operand) (ho : o.op = .load 4 x) (p : Addr) (v : Value) (hx : a.eval x = .pointer (some p)) (hc : w.cell? p = some v) (h : K (a.put o.dst v) w) : o.wp Tryz.prog a w K Q := by
  unfold Oper.wp execOp
  simp only [ho, hx]
  simp [go_sem, hc]
  exact h
theorem o_fld23_0 (x : Operand) (ho : o.op = .fieldAddr 73 x 0) (b i : Nat) (hx : a.eval x = .pointer (some ⟨b, i, none⟩)) (h : K (a.put o.dst (.pointer (some ⟨b, i, none⟩))) w) : o.wp Tryz.prog a w K Q := by
  unfold Oper.wp execOp
  simp only [ho, hx]
  simp [go_sem]
  exact h
theorem o_fld23_1 (x : Operand) (ho : o.op = .fieldAddr 73 x 1) (b i : Nat) (hx : a.eval x = .pointer (some ⟨b, i, none⟩)) (h : K (a.put o.dst (.pointer (some ⟨b, i + 1, none⟩))) w) : o.wp Tryz.prog a w K Q := by
  unfold Oper.wp execOp
  simp only [ho, hx]
  simp [go_sem]
  exact h
theorem o_fld23_2 (x : Operand) (ho : o.op = .fieldAddr 73 x 2) (b i : Nat) (hx : a.eval x = .pointer (some ⟨b, i, none⟩)) (h : K (a.put o.dst (.pointer (some ⟨b, i + 2, none⟩))) w) : o.wp Tryz.prog a w K Q := by
  unfold Oper.wp execOp
  simp only [ho, hx]
  simp [go_sem]
  exact h
/-- A block turns at the operation k of a region. -/
@[reducible] def SX {α : Type} (X : List Nat) (w : World) (mk : α → List (Nat × Nat × List Value)) (S0 S1 : α) (k : Nat) (d : Nat → Bool) (_ : Nat → Value) (W : World) : Prop :=
  ∃ S, Mm X w W (mk S) ∧ (d k = false → S = S0) ∧ (d k = true → S = S1)
theorem SX.loc {α : Type} {X : List Nat} {w : World} {mk : α → List (Nat × Nat × List Value)} {S0 S1 : α} {k : Nat} : ∀ d d' vs vs' W, (∀ i ∈ [k], d i = d' i ∧ vs i = vs' i) → SX X w mk S0 S1 k d vs W → SX X w mk S0 S1 k d' vs' W := by
  intro d d' vs vs' W H h
  have e0 := (H k (by simp)).1
  unfold SX at h ⊢
  rw [← e0]
  exact h
theorem wpStoreB {T : Nat} (hs : (Tryz.prog.info? T).map (·.size) = some 1) (hgd : op.guard = none) (x y : Operand) (ho : op.op = .store T x y) (hd : op.dst = none) (b off : Nat) (v : Value) (h1 : One v) (hx : a.eval x = .pointer (some ⟨b, off, none⟩)) (hy : a.eval y = v) {TT : Nat} {us : List Value} (hB : Blk w b TT us) (hl : off < us.length)
    (h : ∀ W, Blk W b TT (us.set off v) → Kept [b] w W → wpList Tryz.prog ops Q rest a W) : wpList Tryz.prog ops Q (op :: rest) a w :=
  wpList_plain hgd fun K hK => by
    have hst := storeVar1 hs hB hl v h1.1 h1.2
    unfold Oper.wp execOp
    simp only [ho, hx, hy, Instr.storeAt, Instr.sureAddr, Sem.run_bind, Sem.run_pure, Result.andThen_ok, hst]
    refine hK _ _ ?_
    rw [hd]
    exact h _ (hB.set v) ((Kept.refl _ _).setCell (by simp) v)
end
end Go.Proofs.YtcfflbafclmheaaGreatDoor.Le

/-
  Numbers as bytes: putNumber, number.
-/
namespace Go.Proofs.YtcfflbafclmheaaGreatDoor.Le
set_option maxRecDepth 100000
set_option maxRecDepth 100000
open Go.RowKit

/-- The k lowest bytes of a number, the highest first. -/
def be : Nat → Int → List Int
  | 0, _ => []
  | k + 1, n => be k (n / 256) ++ [n % 256]
theorem be_len : ∀ (k : Nat) (n : Int), (be k n).length = k
  | 0, _ => rfl
  | k + 1, n => by rw [be, List.length_append, be_len k]; rfl
theorem be_byte : ∀ (k : Nat) (n : Int), ∀ x ∈ be k n, 0 ≤ x ∧ x < 256
  | 0, _ => by simp [be]
  | k + 1, n => by
    intro x hx
    rw [be] at hx
    rcases List.mem_append.1 hx with h | h
    · exact be_byte k _ x h
    · simp at h; omega
theorem u8s_set (l : List Int) (i : Nat) (x : Int) : (u8s l).set i (.int .u8 x) = u8s (l.set i x) := by simp [u8s, List.map_set]
theorem set_at (A B : List Int) (x y : Int) (n : Nat) (h : A.length = n) : (A ++ x :: B).set n y = A ++ y :: B := by
  subst h
  rw [List.set_append_right _ _ (Nat.le_refl _)]
  simp
set_option maxHeartbeats 2000000 in
theorem put25 (b k o : Nat) (n : Int) (pre mid post : List Int) (w : World) (hB : Blk w b 59 (u8s (pre ++ mid ++ post))) (hp : pre.length = o) (hm : mid.length = k) (c : Nat) (hk : k ≤ 8) (hn : I64 n) : Calls Tryz.prog 124 #[.slice (some ⟨b, o, none⟩) k c, .int .i64 n] w fun e w' => e = .returned (.tuple #[]) ∧ Blk w' b 59 (u8s (pre ++ be k n ++ post)) ∧ Kept [b] w w' := by
  have HB := hide hB
  have HK := hide (Kept.refl [b] w)
  have hkI : (k : Int) ≤ 8 := by omega
  have HP := hide hp
  have HM := hide hm
  have HN := hide hn
  clear hB hp hm hn
  go_enter Tryz.func124, Tryz.ntmps124
  go_wp2_with fail
  go_loopw [1, 4] (fun xn xi wr => ∃ (j : Nat) (q : Int) (tl : List Int), j ≤ k ∧ xn = .int .i64 q ∧ xi = .int .i64 ((j : Int) - 1) ∧ Hid (I64 q) ∧ Hid (be k n = be j q ++ tl) ∧ Hid (Blk wr b 59 (u8s (pre ++ (mid.take j ++ tl) ++ post))) ∧ Hid (Kept [b] w wr)) (fun _ i _ => (intOf i + 1).toNat)
  case atStart => exact ⟨k, n, [], Nat.le_refl _, rfl, rfl, HN, by show _ = _; simp, by rw [List.take_of_length_le (by rw [unhide HM]; exact Nat.le_refl _), List.append_nil]; exact HB, HK⟩
  case round =>
    clear HB HK
    obtain ⟨j, q, tl, hj, rfl, rfl, HQ, HE, HB, HK⟩ := hrel
    cases j with
    | zero =>
      have hd : decide (0 ≤ ((0 : Nat) : Int) - 1) = false := by decide
      go_wp2_with fail
      go_end0
      have h9 := unhide HE
      have h8 := unhide HB
      rw [be, List.nil_append] at h9
      rw [List.take_zero, List.nil_append] at h8
      rw [h9]
      exact ⟨rfl, h8, unhide HK⟩
    | succ j =>
      have e1 : ((j + 1 : Nat) : Int) - 1 = (j : Int) := by omega
      rw [e1]
      clear e1
      have hjk : (j : Int) < (k : Int) := by omega
      obtain ⟨x, hx⟩ : ∃ x, mid[j]? = some x := ⟨_, List.getElem?_eq_getElem (by have := unhide HM; omega)⟩
      have hl := unhide HB
      have hlen : (pre ++ mid.take j).length = o + j := by
        rw [List.length_append, List.length_take, unhide HP, unhide HM]; omega
      have he : pre ++ (mid.take (j + 1) ++ tl) ++ post = (pre ++ mid.take j) ++ x :: (tl ++ post) := by
        rw [List.take_add_one, hx]; simp
      rw [he] at hl
      have HB2 := hide hl
      have HLT : Hid (o + j < (u8s ((pre ++ mid.take j) ++ x :: (tl ++ post))).length) := by
        show _ < _
        rw [u8s_len, List.length_append, hlen]; simp
      have HS : Hid ((u8s ((pre ++ mid.take j) ++ x :: (tl ++ post))).set (o + j) (.int .u8 (q % 256)) = u8s (pre ++ (mid.take j ++ (q % 256) :: tl) ++ post)) := by
        show _ = _
        rw [u8s_set, set_at _ _ _ _ _ hlen]
        simp
      have hq := unhide HQ
      obtain ⟨q1, q2⟩ := hq
      have HQ2 : Hid (I64 (q / 256)) := by constructor <;> omega
      have HE2 : Hid (be k n = be j (q / 256) ++ (q % 256 :: tl)) := by
        show _ = _
        rw [unhide HE, be]; simp
      clear hx hl hlen he HB HE HQ
      go_wp2_with (
        first
        | (refine wpStoreB size5 (by rfl) (.tmp 16) (.tmp 15) (by rfl) (by rfl) b (o + j) (.int .u8 (q % 256)) ⟨rfl, rfl⟩ (by rfl) (by rfl) (unhide HB2) (unhide HLT) ?_
           intro W9 B9 K9
           rw [unhide HS] at B9
           have HB9 := hide B9
           have HK9 : Hid (Kept [b] w W9) := (unhide HK).trans K9
           clear B9 K9
           refine Stp.go ?_))
      constructor
      go_wp2_with fail
      go_roundw
      case rel => exact ⟨j, q / 256, q % 256 :: tl, by omega, rfl, rfl, HQ2, HE2, HB9, HK9⟩
      case measure => simp [intOf]
/-- The number that bytes say, as an int64. -/
def ofB : Int → List Int → Int
  | n, [] => n
  | n, x :: l => ofB (wrap64 (n * 256 + x)) l
theorem w64_i (n : Int) : I64 (wrap64 n) := by unfold wrap64; constructor <;> omega
theorem or_byte (q x : Int) (h0 : 0 ≤ x) (h1 : x < 256) : bits BinOp.or IntKind.i64 (wrap64 (q * 256)) x = wrap64 (q * 256 + x) := by
  have hx : (BitVec.ofInt 64 x).toNat = x.toNat := by rw [BitVec.toNat_ofInt]; omega
  obtain ⟨m, hm⟩ : ∃ m : Nat, (BitVec.ofInt 64 (wrap64 (q * 256))).toNat = 2 ^ 8 * m ∧ ((2 ^ 8 * m : Nat) : Int) = (q * 256) % 18446744073709551616 := by
    refine ⟨(q % 72057594037927936).toNat, ?_, ?_⟩
    · rw [BitVec.toNat_ofInt]; unfold wrap64; omega
    · omega
  show IntKind.i64.wrap ((BitVec.ofInt 64 (wrap64 (q * 256)) ||| BitVec.ofInt 64 x).toNat : Int) = _
  rw [BitVec.toNat_or, hx, hm.1, ← Nat.two_pow_add_eq_or_of_lt (by omega), IntKind.wrap_i64]
  have := hm.2
  unfold wrap64
  omega
set_option maxHeartbeats 2000000 in
theorem number26 (b k o : Nat) (pre mid post : List Int) (w : World) (hB : Blk w b 59 (u8s (pre ++ mid ++ post))) (hp : pre.length = o) (hm : mid.length = k) (hy : ∀ x ∈ mid, 0 ≤ x ∧ x < 256) (c : Nat) (hk : k ≤ 8) : Calls Tryz.prog 149 #[.slice (some ⟨b, o, none⟩) k c] w fun e w' => e = .returned (.int .i64 (ofB 0 mid)) ∧ w' = w := by
  have HB := hide hB
  have hkI : (k : Int) ≤ 8 := by omega
  have HP := hide hp
  have HM := hide hm
  have HY := hide hy
  clear hB hp hm hy
  go_enter Tryz.func149, Tryz.ntmps149
  go_wp2_with fail
  go_loopw [3, 8] (fun xn xi wr => ∃ (j : Nat) (q : Int), j ≤ k ∧ xn = .int .i64 q ∧ xi = .int .i64 j ∧ Hid (I64 q) ∧ Hid (ofB 0 mid = ofB q (mid.drop j)) ∧ Hid (wr = w)) (fun _ i _ => k - (intOf i).toNat)
  case atStart => exact ⟨0, 0, by omega, rfl, rfl, ⟨by decide, by decide⟩, by show _ = _; simp, rfl⟩
  case round =>
    obtain ⟨j, q, hj, rfl, rfl, HQ, HE, HW⟩ := hrel
    by_cases hlt : j < k
    · obtain ⟨x, hx⟩ : ∃ x, mid[j]? = some x := ⟨_, List.getElem?_eq_getElem (by have := unhide HM; omega)⟩
      have hjk : (j : Int) < (k : Int) := by omega
      have hd : decide ((j : Int) < (k : Int)) = true := by simpa using hjk
      have hx8 := unhide HY x (List.mem_of_getElem? hx)
      have hc : wr.cell? ⟨b, o + j, none⟩ = some (.int .u8 x) := by
        rw [unhide HW, (unhide HB).cell]
        simp only [u8s, List.getElem?_map]
        rw [List.append_assoc, List.getElem?_append_right (by have := unhide HP; omega), unhide HP, Nat.add_sub_cancel_left, List.getElem?_append_left (by have := unhide HM; omega), hx]
        rfl
      have hq := unhide HQ
      obtain ⟨q1, q2⟩ := hq
      obtain ⟨x1, x2⟩ := hx8
      have HO : Hid (bits BinOp.or IntKind.i64 (wrap64 (q * 256)) x = wrap64 (q * 256 + x)) := or_byte q x x1 x2
      have HE2 : Hid (ofB 0 mid = ofB (wrap64 (q * 256 + x)) (mid.drop (j + 1))) := by
        show _ = _
        obtain ⟨h1, h2⟩ := List.getElem?_eq_some_iff.1 hx
        rw [unhide HE, List.drop_eq_getElem_cons h1, h2, ofB]
      clear hx HE
      go_wp2_with fail
      go_roundw
      case rel => exact ⟨j + 1, wrap64 (q * 256 + x), by omega, by rw [unhide HO], by go_num, w64_i _, HE2, HW⟩
      case measure => simp [intOf]; omega
    · have hd : decide ((j : Int) < (k : Int)) = false := by simp; omega
      go_wp2_with fail
      go_ret
      have h9 := unhide HE
      rw [List.drop_of_length_le (by have := unhide HM; omega), ofB] at h9
      exact ⟨by rw [h9]; rfl, unhide HW⟩

theorem ofB_app : ∀ (l : List Int) (n x : Int), ofB n (l ++ [x]) = wrap64 (ofB n l * 256 + x)
  | [], n, x => rfl
  | y :: l, n, x => by rw [List.cons_append, ofB, ofB_app l, ofB]
theorem ofB_be : ∀ (k : Nat) (m : Int), 0 ≤ m → m < 256 ^ k → m ≤ 9223372036854775807 → ofB 0 (be k m) = m
  | 0, m, h0, h1, _ => by
    rw [Int.pow_zero] at h1
    simp [be, ofB]
    omega
  | k + 1, m, h0, h1, h2 => by
    have hp : (256 : Int) ^ (k + 1) = 256 ^ k * 256 := Int.pow_succ ..
    rw [hp] at h1
    rw [be, ofB_app, ofB_be k (m / 256) (by omega) (by omega) (by omega)]
    unfold wrap64
    omega
theorem zl (n : Nat) : (u8s (zs n)).length = n := by simp [u8s_len, zs]
theorem res8 (w : World) (z : Nat) (vs : List Value) (e : Int) (tmps : Array Value) (h4 : tmps[2]?.getD undef = P0 z) (h5 : tmps[3]?.getD undef = .int .i64 e) (hl : vs.length = 64) (hb : Blk w z 59 vs) : (results Tryz.f70 tmps).run Tryz.prog w = .ok (.tuple #[aggV vs, .int .i64 e]) w := by
  have := loadV row25 hl hb
  simp [results, Tryz.results70, h4, h5, this, asAddr]
theorem res9 (w : World) (z : Nat) (vs : List Value) (e : Int) (tmps : Array Value) (h4 : tmps[2]?.getD undef = P0 z) (h5 : tmps[3]?.getD undef = .int .i64 e) (hl : vs.length = 3) (hb : Blk w z 73 vs) : (results Tryz.f121 tmps).run Tryz.prog w = .ok (.tuple #[aggV vs, .int .i64 e]) w := by
  have := loadV row23 hl hb
  simp [results, Tryz.results121, h4, h5, this, asAddr]
theorem cg25 (vs : Array Value) (w : World) : (callFunc 124 vs).run Tryz.prog w = .ok (.enter 124 vs) w := by kernel_rfl
theorem cg26 (vs : Array Value) (w : World) : (callFunc 149 vs).run Tryz.prog w = .ok (.enter 149 vs) w := by kernel_rfl
section
variable {o : Oper} {a : Act} {w : World} {K : Act → World → Prop} {Q : Exit → Act → World → Prop}
theorem o_sl1 (x : Operand) (ho : o.op = .slice 59 x (some (.const (.int .i64 1))) (some (.const (.int .i64 5))) none) (b : Nat) (hx : a.eval x = P0 b) (h : K (a.put o.dst (.slice (some ⟨b, 1, none⟩) 4 63)) w) : o.wp Tryz.prog a w K Q := by
  unfold Oper.wp execOp
  simp only [ho, hx]
  simp [go_sem, Act.eval]
  exact h
theorem o_sl5 (x : Operand) (ho : o.op = .slice 59 x (some (.const (.int .i64 5))) (some (.const (.int .i64 13))) none) (b : Nat) (hx : a.eval x = P0 b) (h : K (a.put o.dst (.slice (some ⟨b, 5, none⟩) 8 59)) w) : o.wp Tryz.prog a w K Q := by
  unfold Oper.wp execOp
  simp only [ho, hx]
  simp [go_sem, Act.eval]
  exact h
theorem o_sl13 (x : Operand) (ho : o.op = .slice 59 x (some (.const (.int .i64 13))) (some (.const (.int .i64 21))) none) (b : Nat) (hx : a.eval x = P0 b) (h : K (a.put o.dst (.slice (some ⟨b, 13, none⟩) 8 51)) w) : o.wp Tryz.prog a w K Q := by
  unfold Oper.wp execOp
  simp only [ho, hx]
  simp [go_sem, Act.eval]
  exact h
end
theorem Mm.sec {X : List Nat} {w0 W : World} {bs : List (Nat × Nat × List Value)} (h : Mm X w0 W bs) {w1 : World} (i : Nat) {b : Nat} {us vs : List Value} (hi : bs[i]? = some (b, 59, us)) (hB : Blk w1 b 59 vs) (hK : Kept [b] W w1) : Mm X w0 w1 (bs.set i (b, 59, vs)) := h.mut i hi hK hB
/-- A lease's sector. -/
def secL (lx : Le) : List Int := [209] ++ be 4 lx.ep ++ be 8 lx.be ++ be 8 lx.re ++ zs 43
def putL (lx : Le) : List Int × Int := if lx.may = false then (zs 64, 2) else if lx = le0 then (zs 64, 0) else (secL lx, 0)
theorem secL_len (lx : Le) : (secL lx).length = 64 := by simp [secL, be_len, zs]
set_option maxHeartbeats 2000000 in
theorem put_a (lx : Le) (w : World) (hm : lx.may = false) : Calls Tryz.prog 70 #[aggV lx.C] w fun e w' => e = .returned (.tuple #[aggV (u8s (zs 64)), .int .i64 2]) ∧ Kept [] w w' := by
  have P24 : ∀ W, Hid (Calls Tryz.prog 123 #[aggV lx.C] W fun e w' => e = .returned (.bool false) ∧ Kept [] W w') := fun W => hide (by have := may24 lx W; rw [hm] at this; exact this)
  go_enter Tryz.func70, Tryz.ntmps70
  have M : Hid (Mm [] w w []) := hide Mm.init
  go_wp2_with (
    first
    | (refine wpBoxV rfl (.tmp 0) rfl (lx.C) rfl ?_
       intro W1 b1 e1 B1 K1
       replace M : Hid (Mm [] w W1 [(b1, 73, lx.C)]) := hide ((unhide M).new e1 B1 K1)
       clear e1 B1 K1
       refine Stp.go ?_))
  constructor
  go_wp2_with (
    first
    | (refine wpAllocW (u8s (zs 64)) zero25 2 rfl rfl rfl ?_
       intro W2 b2 e2 B2 K2
       replace M : Hid (Mm [] w W2 [(b1, 73, lx.C), (b2, 59, u8s (zs 64))]) := hide ((unhide M).new e2 B2 K2)
       clear e2 B2 K2
       refine Stp.go ?_))
  constructor
  go_wp2_with (
    first
    | (refine wpAllocW (u8s (zs 64)) zero25 4 rfl rfl rfl ?_
       intro W3 b3 e3 B3 K3
       replace M : Hid (Mm [] w W3 [(b1, 73, lx.C), (b2, 59, u8s (zs 64)), (b3, 59, u8s (zs 64))]) := hide ((unhide M).new e3 B3 K3)
       clear e3 B3 K3
       refine Stp.go ?_))
  constructor
  go_wp2_with (
    first
    | (refine wpLoadA row23 rfl (.tmp 1) rfl b1 0 rfl (lx.C) rfl ((unhide M).at 0 _ rfl).range ?_
       refine Stp.go ?_))
  constructor
  go_wp2_with (
    first
    | (go_at_call 123
       refine (unhide (P24 _)).mono ?_
       rintro e W4 ⟨rfl, K4⟩
       replace M : Hid (Mm [] w W4 [(b1, 73, lx.C), (b2, 59, u8s (zs 64)), (b3, 59, u8s (zs 64))]) := hide ((unhide M).step K4)
       clear K4
       refine Stp.go ?_))
  constructor
  go_wp2_with (
    first
    | (refine wpLoadA row25 rfl (.tmp 4) rfl b3 0 rfl (u8s (zs 64)) (zl 64) ((unhide M).at 2 _ rfl).range ?_
       refine Stp.go ?_))
  constructor
  go_wp2_with (
    first
    | (refine wpStoreM row25 rfl (.tmp 2) (.tmp 9) rfl rfl b2 1 (u8s (zs 64)) rfl rfl (zl 64) (u8s_one _) (unhide M) rfl (zl 64) ?_
       intro W5 N5
       replace M : Hid (Mm [] w W5 [(b1, 73, lx.C), (b2, 59, u8s (zs 64)), (b3, 59, u8s (zs 64))]) := hide N5
       clear N5
       refine Stp.go ?_))
  constructor
  go_wp2_with fail
  refine bodyPost_ret (res8 _ b2 (u8s (zs 64)) 2 _ rfl rfl (zl 64) ((unhide M).at 1 _ rfl)) rfl ?_
  exact ⟨rfl, (unhide M).kept⟩
set_option maxHeartbeats 2000000 in
theorem put_b (lx : Le) (w : World) (hm : lx.may = true) (hq : decide (lx = le0) = true) : Calls Tryz.prog 70 #[aggV lx.C] w fun e w' => e = .returned (.tuple #[aggV (u8s (zs 64)), .int .i64 0]) ∧ Kept [] w w' := by
  have P24 : ∀ W, Hid (Calls Tryz.prog 123 #[aggV lx.C] W fun e w' => e = .returned (.bool true) ∧ Kept [] W w') := fun W => hide (by have := may24 lx W; rw [hm] at this; exact this)
  go_enter Tryz.func70, Tryz.ntmps70
  have M : Hid (Mm [] w w []) := hide Mm.init
  go_wp2_with (
    first
    | (refine wpBoxV rfl (.tmp 0) rfl (lx.C) rfl ?_
       intro W1 b1 e1 B1 K1
       replace M : Hid (Mm [] w W1 [(b1, 73, lx.C)]) := hide ((unhide M).new e1 B1 K1)
       clear e1 B1 K1
       refine Stp.go ?_))
  constructor
  go_wp2_with (
    first
    | (refine wpAllocW (u8s (zs 64)) zero25 2 rfl rfl rfl ?_
       intro W2 b2 e2 B2 K2
       replace M : Hid (Mm [] w W2 [(b1, 73, lx.C), (b2, 59, u8s (zs 64))]) := hide ((unhide M).new e2 B2 K2)
       clear e2 B2 K2
       refine Stp.go ?_))
  constructor
  go_wp2_with (
    first
    | (refine wpAllocW (u8s (zs 64)) zero25 4 rfl rfl rfl ?_
       intro W3 b3 e3 B3 K3
       replace M : Hid (Mm [] w W3 [(b1, 73, lx.C), (b2, 59, u8s (zs 64)), (b3, 59, u8s (zs 64))]) := hide ((unhide M).new e3 B3 K3)
       clear e3 B3 K3
       refine Stp.go ?_))
  constructor
  go_wp2_with (
    first
    | (refine wpLoadA row23 rfl (.tmp 1) rfl b1 0 rfl (lx.C) rfl ((unhide M).at 0 _ rfl).range ?_
       refine Stp.go ?_))
  constructor
  go_wp2_with (
    first
    | (go_at_call 123
       refine (unhide (P24 _)).mono ?_
       rintro e W4 ⟨rfl, K4⟩
       replace M : Hid (Mm [] w W4 [(b1, 73, lx.C), (b2, 59, u8s (zs 64)), (b3, 59, u8s (zs 64))]) := hide ((unhide M).step K4)
       clear K4
       refine Stp.go ?_))
  constructor
  go_wp2_with (
    first
    | (refine wpLoadA row23 rfl (.tmp 1) rfl b1 0 rfl (lx.C) rfl ((unhide M).at 0 _ rfl).range ?_
       refine Stp.go ?_))
  constructor
  go_wp2_with (
    first
    | (refine wpBuildZ (T := 73) le0.C build23 rfl rfl ?_
       refine Stp.go ?_))
  constructor
  go_wp2_with (
    first
    | (refine wpEqlA 73 73 guard23 (.tmp 11) (.tmp 12) rfl rfl (lx.C) (le0.C) rfl rfl true ((eqL23 _ _ _).trans (by rw [hq])) ?_
       refine Stp.go ?_))
  constructor
  go_wp2_with (
    first
    | (refine wpLoadA row25 rfl (.tmp 4) rfl b3 0 rfl (u8s (zs 64)) (zl 64) ((unhide M).at 2 _ rfl).range ?_
       refine Stp.go ?_))
  constructor
  go_wp2_with (
    first
    | (refine wpStoreM row25 rfl (.tmp 2) (.tmp 14) rfl rfl b2 1 (u8s (zs 64)) rfl rfl (zl 64) (u8s_one _) (unhide M) rfl (zl 64) ?_
       intro W5 N5
       replace M : Hid (Mm [] w W5 [(b1, 73, lx.C), (b2, 59, u8s (zs 64)), (b3, 59, u8s (zs 64))]) := hide N5
       clear N5
       refine Stp.go ?_))
  constructor
  go_wp2_with fail
  refine bodyPost_ret (res8 _ b2 (u8s (zs 64)) 0 _ rfl rfl (zl 64) ((unhide M).at 1 _ rfl)) rfl ?_
  exact ⟨rfl, (unhide M).kept⟩
set_option maxHeartbeats 8000000 in
theorem put_c (lx : Le) (w : World) (hm : lx.may = true) (hq : decide (lx = le0) = false) : Calls Tryz.prog 70 #[aggV lx.C] w fun e w' => e = .returned (.tuple #[aggV (u8s (secL lx)), .int .i64 0]) ∧ Kept [] w w' := by
  have P24 : ∀ W, Hid (Calls Tryz.prog 123 #[aggV lx.C] W fun e w' => e = .returned (.bool true) ∧ Kept [] W w') := fun W => hide (by have := may24 lx W; rw [hm] at this; exact this)
  have hb := hm
  simp only [Le.may, decide_eq_true_eq] at hb
  have HEP : Hid (I64 lx.ep) := by constructor <;> omega
  have HBE : Hid (I64 lx.be) := by constructor <;> omega
  have HRE : Hid (I64 lx.re) := by constructor <;> omega
  clear hb
  go_enter Tryz.func70, Tryz.ntmps70
  have M : Hid (Mm [] w w []) := hide Mm.init
  go_wp2_with (
    first
    | (refine wpBoxV rfl (.tmp 0) rfl (lx.C) rfl ?_
       intro W1 b1 e1 B1 K1
       replace M : Hid (Mm [] w W1 [(b1, 73, lx.C)]) := hide ((unhide M).new e1 B1 K1)
       clear e1 B1 K1
       refine Stp.go ?_))
  constructor
  go_wp2_with (
    first
    | (refine wpAllocW (u8s (zs 64)) zero25 2 rfl rfl rfl ?_
       intro W2 b2 e2 B2 K2
       replace M : Hid (Mm [] w W2 [(b1, 73, lx.C), (b2, 59, u8s (zs 64))]) := hide ((unhide M).new e2 B2 K2)
       clear e2 B2 K2
       refine Stp.go ?_))
  constructor
  go_wp2_with (
    first
    | (refine wpAllocW (u8s (zs 64)) zero25 4 rfl rfl rfl ?_
       intro W3 b3 e3 B3 K3
       replace M : Hid (Mm [] w W3 [(b1, 73, lx.C), (b2, 59, u8s (zs 64)), (b3, 59, u8s (zs 64))]) := hide ((unhide M).new e3 B3 K3)
       clear e3 B3 K3
       refine Stp.go ?_))
  constructor
  go_wp2_with (
    first
    | (refine wpLoadA row23 rfl (.tmp 1) rfl b1 0 rfl (lx.C) rfl ((unhide M).at 0 _ rfl).range ?_
       refine Stp.go ?_))
  constructor
  go_wp2_with (
    first
    | (go_at_call 123
       refine (unhide (P24 _)).mono ?_
       rintro e W4 ⟨rfl, K4⟩
       replace M : Hid (Mm [] w W4 [(b1, 73, lx.C), (b2, 59, u8s (zs 64)), (b3, 59, u8s (zs 64))]) := hide ((unhide M).step K4)
       clear K4
       refine Stp.go ?_))
  constructor
  go_wp2_with (
    first
    | (refine wpLoadA row23 rfl (.tmp 1) rfl b1 0 rfl (lx.C) rfl ((unhide M).at 0 _ rfl).range ?_
       refine Stp.go ?_))
  constructor
  go_wp2_with (
    first
    | (refine wpBuildZ (T := 73) le0.C build23 rfl rfl ?_
       refine Stp.go ?_))
  constructor
  go_wp2_with (
    first
    | (refine wpEqlA 73 73 guard23 (.tmp 11) (.tmp 12) rfl rfl (lx.C) (le0.C) rfl rfl false ((eqL23 _ _ _).trans (by rw [hq])) ?_
       refine Stp.go ?_))
  constructor
  go_wp2_with (
    first
    | (refine wpStoreM1 size5 rfl (.tmp 15) (.const (.int .u8 209)) rfl rfl b3 0 2 (.int .u8 209) ⟨rfl, rfl⟩ rfl rfl (unhide M) rfl (by simp [u8s, zs]) ?_
       intro W5 N5
       replace M : Hid (Mm [] w W5 [(b1, 73, lx.C), (b2, 59, u8s (zs 64)), (b3, 59, u8s ([209] ++ zs 4 ++ zs 59))]) := hide N5
       clear N5
       refine Stp.go ?_))
  constructor
  go_wp2_with fail
  refine wp_region_any mixed (wpAny_gx 4 rfl (by kernel_rfl) [some (.slice (some ⟨b3, 1, none⟩) 4 63), some (.pointer (some ⟨b1, 0, none⟩)), some (.int .i64 lx.ep), none] rfl (by kernel_rfl) (fun l vs W => (SX [] w (fun S => [(b1, 73, lx.C), (b2, 59, u8s (zs 64)), (b3, 59, u8s S)]) ([209] ++ zs 4 ++ zs 59) ([209] ++ be 4 lx.ep ++ zs 59) 3) (fun i => l.getD i false) vs W) (⟨_, (unhide M).drew, (fun _ => rfl), fun h => by cases h⟩) ?_ ?_)
  · intro ix o' hi ho a' w2 l vs hls hlf hJ hout hin hdep hnot
    match ix, ho with
    | 0, ho =>
      obtain rfl := Option.some.inj ho
      have e0 := hout 4 (by kernel_rfl)
      replace e0 : a'.eval (.tmp 4) = _ := e0.trans rfl
      exact o_sl1 (.tmp 4) rfl b3 e0 ⟨_, rfl, told_of rfl, keepG (St := (SX [] w (fun S => [(b1, 73, lx.C), (b2, 59, u8s (zs 64)), (b3, 59, u8s S)]) ([209] ++ zs 4 ++ zs 59) ([209] ++ be 4 lx.ep ++ zs 59) 3)) [3] SX.loc (by omega) (by decide) hJ⟩
    | 1, ho =>
      obtain rfl := Option.some.inj ho
      have e0 := hout 1 (by kernel_rfl)
      replace e0 : a'.eval (.tmp 1) = _ := e0.trans rfl
      exact o_fld23_0 (.tmp 1) rfl b1 0 e0 ⟨_, rfl, told_of rfl, keepG (St := (SX [] w (fun S => [(b1, 73, lx.C), (b2, 59, u8s (zs 64)), (b3, 59, u8s S)]) ([209] ++ zs 4 ++ zs 59) ([209] ++ be 4 lx.ep ++ zs 59) 3)) [3] SX.loc (by omega) (by decide) hJ⟩
    | 2, ho =>
      obtain rfl := Option.some.inj ho
      have e0 : a'.eval (.tmp 17) = .pointer (some ⟨b1, 0, none⟩) := by have h9 := hin 1 17 (by kernel_rfl) (by kernel_rfl); exact h9.1.trans (told_is _ h9.2 rfl)
      have hJ2 := hJ
      obtain ⟨S, hM, _, _⟩ := hJ2
      exact o_load2 (.tmp 17) rfl _ _ e0 (fits_cell (hM.at 0 _ rfl) 0 _ rfl) ⟨_, rfl, told_of rfl, keepG (St := (SX [] w (fun S => [(b1, 73, lx.C), (b2, 59, u8s (zs 64)), (b3, 59, u8s S)]) ([209] ++ zs 4 ++ zs 59) ([209] ++ be 4 lx.ep ++ zs 59) 3)) [3] SX.loc (by omega) (by decide) hJ⟩
    | 3, ho =>
      obtain rfl := Option.some.inj ho
      have e0 : a'.eval (.tmp 16) = .slice (some ⟨b3, 1, none⟩) 4 63 := by have h9 := hin 0 16 (by kernel_rfl) (by kernel_rfl); exact h9.1.trans (told_is _ h9.2 rfl)
      have e1 : a'.eval (.tmp 18) = .int .i64 lx.ep := by have h9 := hin 2 18 (by kernel_rfl) (by kernel_rfl); exact h9.1.trans (told_is _ h9.2 rfl)
      obtain ⟨S, hM, hS0, _⟩ := hJ
      obtain rfl := hS0 hlf
      refine wp_callF 124 _ _ rfl #[.slice (some ⟨b3, 1, none⟩) 4 63, .int .i64 lx.ep] (by simp [e0, e1]) (cg25 _ _) ((put25 b3 4 1 lx.ep [209] (zs 4) (zs 59) w2 (by have h9 := hM.at 2 _ rfl; exact h9) (by first | rfl | simp [be_len]) (by simp [zs]) 63 (by omega) (unhide HEP)).mono ?_)
      rintro e w3 ⟨rfl, hB3, hk3⟩
      exact ⟨_, rfl, _, rfl, told_no rfl, nextG (St := (SX [] w (fun S => [(b1, 73, lx.C), (b2, 59, u8s (zs 64)), (b3, 59, u8s S)]) ([209] ++ zs 4 ++ zs 59) ([209] ++ be 4 lx.ep ++ zs 59) 3)) (by omega) ⟨_, hM.sec 2 rfl hB3 hk3, (fun h => by cases h), fun _ => by first | rfl | simp [secL]⟩⟩
  intro l_0 vs0 V0 hl hJ htold
  have t0 : vs0 0 = .slice (some ⟨b3, 1, none⟩) 4 63 := told_is _ (htold 0 (by decide)) rfl
  have t1 : vs0 1 = .pointer (some ⟨b1, 0, none⟩) := told_is _ (htold 1 (by decide)) rfl
  have t2 : vs0 2 = .int .i64 lx.ep := told_is _ (htold 2 (by decide)) rfl
  rw [show (List.range 4).map vs0 = [vs0 0, vs0 1, vs0 2, vs0 3] from rfl]
  simp only [t0, t1, t2, putAll, Act.put, List.setIfInBounds_toArray, List.set_cons_succ, List.set_cons_zero]
  clear t0 t1 t2 htold
  obtain ⟨S4, hM4, _, hS4⟩ := hJ
  obtain rfl := hS4 (hl 3 (by decide))
  rw [show [209] ++ be 4 lx.ep ++ zs 59 = ([209] ++ be 4 lx.ep) ++ zs 8 ++ zs 51 by simp [zs]] at hM4
  replace M := hide hM4
  clear hS4 hM4 hl
  go_wp2_with fail
  refine wp_region_any mixed (wpAny_gx 4 rfl (by kernel_rfl) [some (.slice (some ⟨b3, 5, none⟩) 8 59), some (.pointer (some ⟨b1, 0 + 1, none⟩)), some (.int .i64 lx.be), none] rfl (by kernel_rfl) (fun l vs W => (SX [] w (fun S => [(b1, 73, lx.C), (b2, 59, u8s (zs 64)), (b3, 59, u8s S)]) ([209] ++ be 4 lx.ep ++ zs 8 ++ zs 51) ([209] ++ be 4 lx.ep ++ be 8 lx.be ++ zs 51) 3) (fun i => l.getD i false) vs W) (⟨_, (unhide M).drew, (fun _ => rfl), fun h => by cases h⟩) ?_ ?_)
  · intro ix o' hi ho a' w2 l vs hls hlf hJ hout hin hdep hnot
    match ix, ho with
    | 0, ho =>
      obtain rfl := Option.some.inj ho
      have e0 := hout 4 (by kernel_rfl)
      replace e0 : a'.eval (.tmp 4) = _ := e0.trans rfl
      exact o_sl5 (.tmp 4) rfl b3 e0 ⟨_, rfl, told_of rfl, keepG (St := (SX [] w (fun S => [(b1, 73, lx.C), (b2, 59, u8s (zs 64)), (b3, 59, u8s S)]) ([209] ++ be 4 lx.ep ++ zs 8 ++ zs 51) ([209] ++ be 4 lx.ep ++ be 8 lx.be ++ zs 51) 3)) [3] SX.loc (by omega) (by decide) hJ⟩
    | 1, ho =>
      obtain rfl := Option.some.inj ho
      have e0 := hout 1 (by kernel_rfl)
      replace e0 : a'.eval (.tmp 1) = _ := e0.trans rfl
      exact o_fld23_1 (.tmp 1) rfl b1 0 e0 ⟨_, rfl, told_of rfl, keepG (St := (SX [] w (fun S => [(b1, 73, lx.C), (b2, 59, u8s (zs 64)), (b3, 59, u8s S)]) ([209] ++ be 4 lx.ep ++ zs 8 ++ zs 51) ([209] ++ be 4 lx.ep ++ be 8 lx.be ++ zs 51) 3)) [3] SX.loc (by omega) (by decide) hJ⟩
    | 2, ho =>
      obtain rfl := Option.some.inj ho
      have e0 : a'.eval (.tmp 21) = .pointer (some ⟨b1, 0 + 1, none⟩) := by have h9 := hin 1 21 (by kernel_rfl) (by kernel_rfl); exact h9.1.trans (told_is _ h9.2 rfl)
      have hJ2 := hJ
      obtain ⟨S, hM, _, _⟩ := hJ2
      exact o_load2 (.tmp 21) rfl _ _ e0 (fits_cell (hM.at 0 _ rfl) 1 _ rfl) ⟨_, rfl, told_of rfl, keepG (St := (SX [] w (fun S => [(b1, 73, lx.C), (b2, 59, u8s (zs 64)), (b3, 59, u8s S)]) ([209] ++ be 4 lx.ep ++ zs 8 ++ zs 51) ([209] ++ be 4 lx.ep ++ be 8 lx.be ++ zs 51) 3)) [3] SX.loc (by omega) (by decide) hJ⟩
    | 3, ho =>
      obtain rfl := Option.some.inj ho
      have e0 : a'.eval (.tmp 20) = .slice (some ⟨b3, 5, none⟩) 8 59 := by have h9 := hin 0 20 (by kernel_rfl) (by kernel_rfl); exact h9.1.trans (told_is _ h9.2 rfl)
      have e1 : a'.eval (.tmp 22) = .int .i64 lx.be := by have h9 := hin 2 22 (by kernel_rfl) (by kernel_rfl); exact h9.1.trans (told_is _ h9.2 rfl)
      obtain ⟨S, hM, hS0, _⟩ := hJ
      obtain rfl := hS0 hlf
      refine wp_callF 124 _ _ rfl #[.slice (some ⟨b3, 5, none⟩) 8 59, .int .i64 lx.be] (by simp [e0, e1]) (cg25 _ _) ((put25 b3 8 5 lx.be ([209] ++ be 4 lx.ep) (zs 8) (zs 51) w2 (by have h9 := hM.at 2 _ rfl; exact h9) (by first | rfl | simp [be_len]) (by simp [zs]) 59 (by omega) (unhide HBE)).mono ?_)
      rintro e w3 ⟨rfl, hB3, hk3⟩
      exact ⟨_, rfl, _, rfl, told_no rfl, nextG (St := (SX [] w (fun S => [(b1, 73, lx.C), (b2, 59, u8s (zs 64)), (b3, 59, u8s S)]) ([209] ++ be 4 lx.ep ++ zs 8 ++ zs 51) ([209] ++ be 4 lx.ep ++ be 8 lx.be ++ zs 51) 3)) (by omega) ⟨_, hM.sec 2 rfl hB3 hk3, (fun h => by cases h), fun _ => by first | rfl | simp [secL]⟩⟩
  intro l_1 vs1 V1 hl hJ htold
  have t0 : vs1 0 = .slice (some ⟨b3, 5, none⟩) 8 59 := told_is _ (htold 0 (by decide)) rfl
  have t1 : vs1 1 = .pointer (some ⟨b1, 0 + 1, none⟩) := told_is _ (htold 1 (by decide)) rfl
  have t2 : vs1 2 = .int .i64 lx.be := told_is _ (htold 2 (by decide)) rfl
  rw [show (List.range 4).map vs1 = [vs1 0, vs1 1, vs1 2, vs1 3] from rfl]
  simp only [t0, t1, t2, putAll, Act.put, List.setIfInBounds_toArray, List.set_cons_succ, List.set_cons_zero]
  clear t0 t1 t2 htold
  obtain ⟨S4, hM4, _, hS4⟩ := hJ
  obtain rfl := hS4 (hl 3 (by decide))
  rw [show [209] ++ be 4 lx.ep ++ be 8 lx.be ++ zs 51 = ([209] ++ be 4 lx.ep ++ be 8 lx.be) ++ zs 8 ++ zs 43 by simp [zs]] at hM4
  replace M := hide hM4
  clear hS4 hM4 hl
  go_wp2_with fail
  refine wp_region_any mixed (wpAny_gx 4 rfl (by kernel_rfl) [some (.slice (some ⟨b3, 13, none⟩) 8 51), some (.pointer (some ⟨b1, 0 + 2, none⟩)), some (.int .i64 lx.re), none] rfl (by kernel_rfl) (fun l vs W => (SX [] w (fun S => [(b1, 73, lx.C), (b2, 59, u8s (zs 64)), (b3, 59, u8s S)]) ([209] ++ be 4 lx.ep ++ be 8 lx.be ++ zs 8 ++ zs 43) (secL lx) 3) (fun i => l.getD i false) vs W) (⟨_, (unhide M).drew, (fun _ => rfl), fun h => by cases h⟩) ?_ ?_)
  · intro ix o' hi ho a' w2 l vs hls hlf hJ hout hin hdep hnot
    match ix, ho with
    | 0, ho =>
      obtain rfl := Option.some.inj ho
      have e0 := hout 4 (by kernel_rfl)
      replace e0 : a'.eval (.tmp 4) = _ := e0.trans rfl
      exact o_sl13 (.tmp 4) rfl b3 e0 ⟨_, rfl, told_of rfl, keepG (St := (SX [] w (fun S => [(b1, 73, lx.C), (b2, 59, u8s (zs 64)), (b3, 59, u8s S)]) ([209] ++ be 4 lx.ep ++ be 8 lx.be ++ zs 8 ++ zs 43) (secL lx) 3)) [3] SX.loc (by omega) (by decide) hJ⟩
    | 1, ho =>
      obtain rfl := Option.some.inj ho
      have e0 := hout 1 (by kernel_rfl)
      replace e0 : a'.eval (.tmp 1) = _ := e0.trans rfl
      exact o_fld23_2 (.tmp 1) rfl b1 0 e0 ⟨_, rfl, told_of rfl, keepG (St := (SX [] w (fun S => [(b1, 73, lx.C), (b2, 59, u8s (zs 64)), (b3, 59, u8s S)]) ([209] ++ be 4 lx.ep ++ be 8 lx.be ++ zs 8 ++ zs 43) (secL lx) 3)) [3] SX.loc (by omega) (by decide) hJ⟩
    | 2, ho =>
      obtain rfl := Option.some.inj ho
      have e0 : a'.eval (.tmp 25) = .pointer (some ⟨b1, 0 + 2, none⟩) := by have h9 := hin 1 25 (by kernel_rfl) (by kernel_rfl); exact h9.1.trans (told_is _ h9.2 rfl)
      have hJ2 := hJ
      obtain ⟨S, hM, _, _⟩ := hJ2
      exact o_load2 (.tmp 25) rfl _ _ e0 (fits_cell (hM.at 0 _ rfl) 2 _ rfl) ⟨_, rfl, told_of rfl, keepG (St := (SX [] w (fun S => [(b1, 73, lx.C), (b2, 59, u8s (zs 64)), (b3, 59, u8s S)]) ([209] ++ be 4 lx.ep ++ be 8 lx.be ++ zs 8 ++ zs 43) (secL lx) 3)) [3] SX.loc (by omega) (by decide) hJ⟩
    | 3, ho =>
      obtain rfl := Option.some.inj ho
      have e0 : a'.eval (.tmp 24) = .slice (some ⟨b3, 13, none⟩) 8 51 := by have h9 := hin 0 24 (by kernel_rfl) (by kernel_rfl); exact h9.1.trans (told_is _ h9.2 rfl)
      have e1 : a'.eval (.tmp 26) = .int .i64 lx.re := by have h9 := hin 2 26 (by kernel_rfl) (by kernel_rfl); exact h9.1.trans (told_is _ h9.2 rfl)
      obtain ⟨S, hM, hS0, _⟩ := hJ
      obtain rfl := hS0 hlf
      refine wp_callF 124 _ _ rfl #[.slice (some ⟨b3, 13, none⟩) 8 51, .int .i64 lx.re] (by simp [e0, e1]) (cg25 _ _) ((put25 b3 8 13 lx.re ([209] ++ be 4 lx.ep ++ be 8 lx.be) (zs 8) (zs 43) w2 (by have h9 := hM.at 2 _ rfl; exact h9) (by first | rfl | simp [be_len]) (by simp [zs]) 51 (by omega) (unhide HRE)).mono ?_)
      rintro e w3 ⟨rfl, hB3, hk3⟩
      exact ⟨_, rfl, _, rfl, told_no rfl, nextG (St := (SX [] w (fun S => [(b1, 73, lx.C), (b2, 59, u8s (zs 64)), (b3, 59, u8s S)]) ([209] ++ be 4 lx.ep ++ be 8 lx.be ++ zs 8 ++ zs 43) (secL lx) 3)) (by omega) ⟨_, hM.sec 2 rfl hB3 hk3, (fun h => by cases h), fun _ => by first | rfl | simp [secL]⟩⟩
  intro l_2 vs2 V2 hl hJ htold
  have t0 : vs2 0 = .slice (some ⟨b3, 13, none⟩) 8 51 := told_is _ (htold 0 (by decide)) rfl
  have t1 : vs2 1 = .pointer (some ⟨b1, 0 + 2, none⟩) := told_is _ (htold 1 (by decide)) rfl
  have t2 : vs2 2 = .int .i64 lx.re := told_is _ (htold 2 (by decide)) rfl
  rw [show (List.range 4).map vs2 = [vs2 0, vs2 1, vs2 2, vs2 3] from rfl]
  simp only [t0, t1, t2, putAll, Act.put, List.setIfInBounds_toArray, List.set_cons_succ, List.set_cons_zero]
  clear t0 t1 t2 htold
  obtain ⟨S4, hM4, _, hS4⟩ := hJ
  obtain rfl := hS4 (hl 3 (by decide))
  replace M := hide hM4
  clear hS4 hM4 hl
  go_wp2_with (
    first
    | (refine wpLoadA row25 rfl (.tmp 4) rfl b3 0 rfl (u8s (secL lx)) (by rw [u8s_len, secL_len]) ((unhide M).at 2 _ rfl).range ?_
       refine Stp.go ?_))
  constructor
  go_wp2_with (
    first
    | (refine wpStoreM row25 rfl (.tmp 2) (.tmp 28) rfl rfl b2 1 (u8s (secL lx)) rfl rfl (by rw [u8s_len, secL_len]) (u8s_one _) (unhide M) rfl (zl 64) ?_
       intro W71 N71
       replace M : Hid (Mm [] w W71 [(b1, 73, lx.C), (b2, 59, u8s (secL lx)), (b3, 59, u8s (secL lx))]) := hide N71
       clear N71
       refine Stp.go ?_))
  constructor
  go_wp2_with fail
  refine bodyPost_ret (res8 _ b2 (u8s (secL lx)) 0 _ rfl rfl (by rw [u8s_len, secL_len]) ((unhide M).at 1 _ rfl)) rfl ?_
  exact ⟨rfl, (unhide M).kept⟩
theorem put8 (lx : Le) (w : World) : Calls Tryz.prog 70 #[aggV lx.C] w fun e w' => e = .returned (.tuple #[aggV (u8s (putL lx).1), .int .i64 (putL lx).2]) ∧ Kept [] w w' := by
  unfold putL
  cases hm : lx.may with
  | false => exact put_a lx w hm
  | true =>
    by_cases hq : lx = le0
    · rw [if_neg (by simp), if_pos hq]; exact put_b lx w hm (by simpa using hq)
    · rw [if_neg (by simp), if_neg hq]; exact put_c lx w hm (by simpa using hq)

end Go.Proofs.YtcfflbafclmheaaGreatDoor.Le

/-
  Get; the document's number.
-/
namespace Go.Proofs.YtcfflbafclmheaaGreatDoor.Le
set_option maxRecDepth 100000
set_option maxRecDepth 100000
open Go.RowKit


/-- The lease that a sector says. -/
def leS (s : List Int) : Le := ⟨ofB 0 ((s.drop 1).take 4), ofB 0 ((s.drop 5).take 8), ofB 0 ((s.drop 13).take 8)⟩
def getL (s : List Int) : Le × Int := if putL (leS s) = (s, 0) then (leS s, 0) else (le0, 12)
/-- A lease's variable is made and filled in a region. -/
@[reducible] def SV (V : World) (v : Le) (d : Nat → Bool) (vs : Nat → Value) (W : World) : Prop :=
  Kept [] V W ∧ (d 7 = true → ∃ p, vs 7 = P0 p ∧ V.heap.size ≤ p ∧ (d 8 = false → Blk W p 73 le0.C) ∧ (d 8 = true → Blk W p 73 v.C))
theorem SV.loc {V : World} {v : Le} : ∀ d d' vs vs' W, (∀ i ∈ [7, 8], d i = d' i ∧ vs i = vs' i) → SV V v d vs W → SV V v d' vs' W := by
  intro d d' vs vs' W H h
  have e0 := H 7 (by simp)
  have e1 := H 8 (by simp)
  unfold SV at h ⊢
  rw [← e0.1, ← e0.2, ← e1.1]
  exact h
section
variable {o : Oper} {a : Act} {w : World} {K : Act → World → Prop} {Q : Exit → Act → World → Prop}
theorem o_bld23 (x y z : Operand) (ho : o.op = .build 73 #[(0, x), (1, y), (2, z)]) (n f q : Int) (hx : a.eval x = .int .i64 n) (hy : a.eval y = .int .i64 f) (hz : a.eval z = .int .i64 q) (h : K (a.put o.dst (aggV (Le.mk n f q).C)) w) : o.wp Tryz.prog a w K Q := by
  unfold Oper.wp execOp
  simp only [ho, List.map_toArray, List.map_cons, List.map_nil, hx, hy, hz, Sem.run_bind, build23p, Result.andThen_ok]
  exact h
end
theorem Mm.add {X : List Nat} {w0 W : World} {bs : List (Nat × Nat × List Value)} (h : Mm X w0 W bs) {b T : Nat} {vs : List Value} (hb : Blk W b T vs) (hge : w0.heap.size ≤ b) (hne : ∀ x ∈ bs, x.1 ≠ b) : Mm X w0 W (bs ++ [(b, T, vs)]) := by
  refine ⟨h.kept, ?_, ?_, ?_⟩
  · intro x hx
    rcases List.mem_append.1 hx with hx | hx
    · exact h.blk x hx
    · simp at hx; subst hx; exact hb
  · intro x hx hl
    rcases List.mem_append.1 hx with hx | hx
    · exact h.own x hx hl
    · simp at hx; subst hx; simp at hl; omega
  · rw [List.map_append, List.nodup_append]
    refine ⟨h.nd, by simp, ?_⟩
    intro a ha c hc
    simp at hc; subst hc
    obtain ⟨x, hx, rfl⟩ := List.mem_map.1 ha
    exact hne x hx
theorem putL_len (lx : Le) : (putL lx).1.length = 64 := by
  unfold putL
  split
  · simp [zs]
  · split
    · simp [zs]
    · exact secL_len lx
theorem leS_ok (s : List Int) : I64 (leS s).ep ∧ I64 (leS s).be ∧ I64 (leS s).re := by
  have hi : ∀ (l : List Int) (n : Int), I64 n → I64 (ofB n l) := by
    intro l
    induction l with
    | nil => intro n h; exact h
    | cons x l ih => intro n _; rw [ofB]; exact ih _ (w64_i _)
  have h0 : I64 0 := ⟨by decide, by decide⟩
  exact ⟨hi _ _ h0, hi _ _ h0, hi _ _ h0⟩
set_option maxHeartbeats 2000000 in
theorem get_a (s q : List Int) (c : Int) (w : World) (hs : Byts 64 s) (hq : q.length = 64) (h8 : ∀ W, Calls Tryz.prog 70 #[aggV (leS s).C] W fun e w' => e = .returned (.tuple #[aggV (u8s q), .int .i64 c]) ∧ Kept [] W w') (hc : c = 0) (he : decide (s = q) = true) : Calls Tryz.prog 121 #[aggV (u8s s)] w fun x w' => x = .returned (.tuple #[aggV (leS s).C, .int .i64 0]) ∧ Kept [] w w' := by
  have P8 : ∀ W, Hid (Calls Tryz.prog 70 #[aggV (leS s).C] W fun e w' => e = .returned (.tuple #[aggV (u8s q), .int .i64 c]) ∧ Kept [] W w') := fun W => hide (h8 W)
  subst hc
  clear h8
  go_enter Tryz.func121, Tryz.ntmps121
  have M : Hid (Mm [] w w []) := hide Mm.init
  go_wp2_with (
    first
    | (refine wpBoxV rfl (.tmp 0) rfl (u8s s) rfl ?_
       intro W1 b1 e1 B1 K1
       replace M : Hid (Mm [] w W1 [(b1, 59, u8s s)]) := hide ((unhide M).new e1 B1 K1)
       clear e1 B1 K1
       refine Stp.go ?_))
  constructor
  go_wp2_with (
    first
    | (refine wpAllocW (le0.C) zero23 2 rfl rfl rfl ?_
       intro W2 b2 e2 B2 K2
       replace M : Hid (Mm [] w W2 [(b1, 59, u8s s), (b2, 73, le0.C)]) := hide ((unhide M).new e2 B2 K2)
       clear e2 B2 K2
       refine Stp.go ?_))
  constructor
  go_wp2_with fail
  refine wp_region_any mixed (wpAny_gx 9 rfl (by kernel_rfl) [some (.slice (some ⟨b1, 1, none⟩) 4 63), some (.int .i64 (ofB 0 ((s.drop 1).take 4))), some (.slice (some ⟨b1, 5, none⟩) 8 59), some (.int .i64 (ofB 0 ((s.drop 5).take 8))), some (.slice (some ⟨b1, 13, none⟩) 8 51), some (.int .i64 (ofB 0 ((s.drop 13).take 8))), some (aggV (leS s).C), none, none] rfl (by kernel_rfl) (fun l vs W => (SV W2 (leS s)) (fun i => l.getD i false) vs W) (⟨⟨rfl, rfl, rfl, Nat.le_refl _, fun _ _ _ => rfl⟩, fun h => by cases h⟩) ?_ ?_)
  · intro ix o' hi ho a' w2 l vs hls hlf hJ hout hin hdep hnot
    match ix, ho with
    | 0, ho =>
      obtain rfl := Option.some.inj ho
      have e0 := hout 1 (by kernel_rfl)
      replace e0 : a'.eval (.tmp 1) = _ := e0.trans rfl
      exact o_sl1 (.tmp 1) rfl b1 e0 ⟨_, rfl, told_of rfl, keepG (St := (SV W2 (leS s))) [7, 8] SV.loc (by omega) (by decide) hJ⟩
    | 1, ho =>
      obtain rfl := Option.some.inj ho
      have e0 : a'.eval (.tmp 7) = .slice (some ⟨b1, 1, none⟩) 4 63 := by have h9 := hin 0 7 (by kernel_rfl) (by kernel_rfl); exact h9.1.trans (told_is _ h9.2 rfl)
      refine wp_callF 149 _ _ rfl #[.slice (some ⟨b1, 1, none⟩) 4 63] (by simp [e0]) (cg26 _ _) ((number26 b1 4 1 (s.take 1) ((s.drop 1).take 4) ((s.drop 1).drop 4) w2 (by have h9 := ((unhide M).step hJ.1).at 0 _ rfl; rw [show s.take 1 ++ (s.drop 1).take 4 ++ (s.drop 1).drop 4 = s by rw [List.append_assoc, List.take_append_drop, List.take_append_drop]]; exact h9) (by rw [List.length_take, hs.len]; rfl) (by rw [List.length_take, List.length_drop, hs.len]; rfl) (fun x hx => hs.byte x (List.mem_of_mem_drop (List.mem_of_mem_take hx))) 63 (by omega)).mono ?_)
      rintro e w3 ⟨rfl, rfl⟩
      exact ⟨_, rfl, _, rfl, told_of rfl, keepG (St := (SV W2 (leS s))) [7, 8] SV.loc (by omega) (by decide) hJ⟩
    | 2, ho =>
      obtain rfl := Option.some.inj ho
      have e0 := hout 1 (by kernel_rfl)
      replace e0 : a'.eval (.tmp 1) = _ := e0.trans rfl
      exact o_sl5 (.tmp 1) rfl b1 e0 ⟨_, rfl, told_of rfl, keepG (St := (SV W2 (leS s))) [7, 8] SV.loc (by omega) (by decide) hJ⟩
    | 3, ho =>
      obtain rfl := Option.some.inj ho
      have e0 : a'.eval (.tmp 9) = .slice (some ⟨b1, 5, none⟩) 8 59 := by have h9 := hin 2 9 (by kernel_rfl) (by kernel_rfl); exact h9.1.trans (told_is _ h9.2 rfl)
      refine wp_callF 149 _ _ rfl #[.slice (some ⟨b1, 5, none⟩) 8 59] (by simp [e0]) (cg26 _ _) ((number26 b1 8 5 (s.take 5) ((s.drop 5).take 8) ((s.drop 5).drop 8) w2 (by have h9 := ((unhide M).step hJ.1).at 0 _ rfl; rw [show s.take 5 ++ (s.drop 5).take 8 ++ (s.drop 5).drop 8 = s by rw [List.append_assoc, List.take_append_drop, List.take_append_drop]]; exact h9) (by rw [List.length_take, hs.len]; rfl) (by rw [List.length_take, List.length_drop, hs.len]; rfl) (fun x hx => hs.byte x (List.mem_of_mem_drop (List.mem_of_mem_take hx))) 59 (by omega)).mono ?_)
      rintro e w3 ⟨rfl, rfl⟩
      exact ⟨_, rfl, _, rfl, told_of rfl, keepG (St := (SV W2 (leS s))) [7, 8] SV.loc (by omega) (by decide) hJ⟩
    | 4, ho =>
      obtain rfl := Option.some.inj ho
      have e0 := hout 1 (by kernel_rfl)
      replace e0 : a'.eval (.tmp 1) = _ := e0.trans rfl
      exact o_sl13 (.tmp 1) rfl b1 e0 ⟨_, rfl, told_of rfl, keepG (St := (SV W2 (leS s))) [7, 8] SV.loc (by omega) (by decide) hJ⟩
    | 5, ho =>
      obtain rfl := Option.some.inj ho
      have e0 : a'.eval (.tmp 11) = .slice (some ⟨b1, 13, none⟩) 8 51 := by have h9 := hin 4 11 (by kernel_rfl) (by kernel_rfl); exact h9.1.trans (told_is _ h9.2 rfl)
      refine wp_callF 149 _ _ rfl #[.slice (some ⟨b1, 13, none⟩) 8 51] (by simp [e0]) (cg26 _ _) ((number26 b1 8 13 (s.take 13) ((s.drop 13).take 8) ((s.drop 13).drop 8) w2 (by have h9 := ((unhide M).step hJ.1).at 0 _ rfl; rw [show s.take 13 ++ (s.drop 13).take 8 ++ (s.drop 13).drop 8 = s by rw [List.append_assoc, List.take_append_drop, List.take_append_drop]]; exact h9) (by rw [List.length_take, hs.len]; rfl) (by rw [List.length_take, List.length_drop, hs.len]; rfl) (fun x hx => hs.byte x (List.mem_of_mem_drop (List.mem_of_mem_take hx))) 51 (by omega)).mono ?_)
      rintro e w3 ⟨rfl, rfl⟩
      exact ⟨_, rfl, _, rfl, told_of rfl, keepG (St := (SV W2 (leS s))) [7, 8] SV.loc (by omega) (by decide) hJ⟩
    | 6, ho =>
      obtain rfl := Option.some.inj ho
      have e0 : a'.eval (.tmp 8) = .int .i64 (ofB 0 ((s.drop 1).take 4)) := by have h9 := hin 1 8 (by kernel_rfl) (by kernel_rfl); exact h9.1.trans (told_is _ h9.2 rfl)
      have e1 : a'.eval (.tmp 10) = .int .i64 (ofB 0 ((s.drop 5).take 8)) := by have h9 := hin 3 10 (by kernel_rfl) (by kernel_rfl); exact h9.1.trans (told_is _ h9.2 rfl)
      have e2 : a'.eval (.tmp 12) = .int .i64 (ofB 0 ((s.drop 13).take 8)) := by have h9 := hin 5 12 (by kernel_rfl) (by kernel_rfl); exact h9.1.trans (told_is _ h9.2 rfl)
      exact o_bld23 (.tmp 8) (.tmp 10) (.tmp 12) rfl _ _ _ e0 e1 e2 ⟨_, rfl, told_of rfl, keepG (St := (SV W2 (leS s))) [7, 8] SV.loc (by omega) (by decide) hJ⟩
    | 7, ho =>
      obtain rfl := Option.some.inj ho
      exact wp_allocA le0.C zero23 rfl ⟨_, rfl, told_no rfl, nextG (St := (SV W2 (leS s))) (by omega) ⟨hJ.1.alloc _, fun _ => ⟨w2.heap.size, rfl, hJ.1.size, fun _ => Blk.new w2 73 _, fun h => by have h9 : l.getD 8 false = true := h; rw [hnot 8 (by kernel_rfl)] at h9; cases h9⟩⟩⟩
    | 8, ho =>
      obtain rfl := Option.some.inj ho
      have e0 : a'.eval (.tmp 4) = vs 7 := (hin 7 4 (by kernel_rfl) (by kernel_rfl)).1
      have e1 : a'.eval (.tmp 13) = aggV (leS s).C := by have h9 := hin 6 13 (by kernel_rfl) (by kernel_rfl); exact h9.1.trans (told_is _ h9.2 rfl)
      obtain ⟨p, hp, hge, hz0, _⟩ := hJ.2 (hdep 7 (by kernel_rfl))
      exact wp_storeN row23 (.tmp 4) (.tmp 13) rfl rfl p 0 _ (e0.trans hp) e1 rfl (leC_one _) ((hz0 hlf).there (by decide)) ⟨undef, rfl, told_no rfl, nextG (St := (SV W2 (leS s))) (by omega) ⟨hJ.1.setCells _ _ (by omega), fun _ => ⟨p, hp, hge, (fun h => by cases h), fun _ => (hz0 hlf).put rfl⟩⟩⟩
  intro l_ vs4 V4 hl hJ htold
  have t0 : vs4 0 = .slice (some ⟨b1, 1, none⟩) 4 63 := told_is _ (htold 0 (by decide)) rfl
  have t1 : vs4 1 = .int .i64 (ofB 0 ((s.drop 1).take 4)) := told_is _ (htold 1 (by decide)) rfl
  have t2 : vs4 2 = .slice (some ⟨b1, 5, none⟩) 8 59 := told_is _ (htold 2 (by decide)) rfl
  have t3 : vs4 3 = .int .i64 (ofB 0 ((s.drop 5).take 8)) := told_is _ (htold 3 (by decide)) rfl
  have t4 : vs4 4 = .slice (some ⟨b1, 13, none⟩) 8 51 := told_is _ (htold 4 (by decide)) rfl
  have t5 : vs4 5 = .int .i64 (ofB 0 ((s.drop 13).take 8)) := told_is _ (htold 5 (by decide)) rfl
  have t6 : vs4 6 = aggV (leS s).C := told_is _ (htold 6 (by decide)) rfl
  rw [show (List.range 9).map vs4 = [vs4 0, vs4 1, vs4 2, vs4 3, vs4 4, vs4 5, vs4 6, vs4 7, vs4 8] from rfl]
  simp only [t0, t1, t2, t3, t4, t5, t6, putAll, Act.put, List.setIfInBounds_toArray, List.set_cons_succ, List.set_cons_zero]
  clear t0 t1 t2 t3 t4 t5 t6 htold
  obtain ⟨p, ep, hgp, _, hbp⟩ := hJ.2 (hl 7 (by decide))
  replace hbp := hbp (hl 8 (by decide))
  have hb1 : b1 < W2.heap.size := ((unhide M).at 0 _ rfl).lt
  have hb2 : b2 < W2.heap.size := ((unhide M).at 1 _ rfl).lt
  have hwz := (unhide M).kept.size
  replace M : Hid (Mm [] w V4 [(b1, 59, u8s s), (b2, 73, le0.C), (p, 73, (leS s).C)]) := hide (((unhide M).step hJ.1).add hbp (by omega) (fun x hx => by simp at hx; rcases hx with rfl | rfl <;> simp <;> omega))
  rw [ep]
  clear hJ hl ep hgp hbp hb1 hb2 hwz
  go_wp2_with (
    first
    | (refine wpLoadA row23 rfl (.tmp 4) rfl p 0 rfl ((leS s).C) rfl ((unhide M).at 2 _ rfl).range ?_
       refine Stp.go ?_))
  constructor
  go_wp2_with (
    first
    | (go_at_call 70
       refine (unhide (P8 _)).mono ?_
       rintro e W21 ⟨rfl, K21⟩
       replace M : Hid (Mm [] w W21 [(b1, 59, u8s s), (b2, 73, le0.C), (p, 73, (leS s).C)]) := hide ((unhide M).step K21)
       clear K21
       refine Stp.go ?_))
  constructor
  go_wp2_with (
    first
    | (refine wpNew row25 (u8s (zs 64)) (zl 64) zero25 5 rfl rfl rfl (.tmp 17) rfl rfl rfl (u8s q) (by rw [u8s_len]; exact hq) (u8s_one _) (by kernel_rfl) (by kernel_rfl) ?_
       intro W22 b22 e22 B22 K22
       replace M : Hid (Mm [] w W22 [(b1, 59, u8s s), (b2, 73, le0.C), (p, 73, (leS s).C), (b22, 59, u8s q)]) := hide ((unhide M).new e22 B22 K22)
       clear e22 B22 K22
       refine Stp.go ?_))
  constructor
  go_wp2_with (
    first
    | (refine wpLoadG row25 (.tmp 1) rfl rfl b1 0 rfl (u8s s) (by rw [u8s_len]; exact hs.len) ((unhide M).at 0 _ rfl).range ?_
       refine Stp.go ?_))
  constructor
  go_wp2_with (
    first
    | (refine wpLoadG row25 (.tmp 5) rfl rfl b22 0 rfl (u8s q) (by rw [u8s_len]; exact hq) ((unhide M).at 3 _ rfl).range ?_
       refine Stp.go ?_))
  constructor
  go_wp2_with (
    first
    | (refine wpNeqG 59 59 guard25 (.tmp 22) (.tmp 23) rfl rfl (u8s s) (u8s q) rfl rfl true ((equal25 _ s q hs.len hq).trans (by rw [he])) ?_
       refine Stp.go ?_))
  constructor
  go_wp2_with (
    first
    | (refine wpLoadA row23 rfl (.tmp 4) rfl p 0 rfl ((leS s).C) rfl ((unhide M).at 2 _ rfl).range ?_
       refine Stp.go ?_))
  constructor
  go_wp2_with (
    first
    | (refine wpStoreM row23 rfl (.tmp 2) (.tmp 27) rfl rfl b2 1 ((leS s).C) rfl rfl rfl (leC_one _) (unhide M) rfl rfl ?_
       intro W23 N23
       replace M : Hid (Mm [] w W23 [(b1, 59, u8s s), (b2, 73, (leS s).C), (p, 73, (leS s).C), (b22, 59, u8s q)]) := hide N23
       clear N23
       refine Stp.go ?_))
  constructor
  go_wp2_with fail
  refine bodyPost_ret (res9 _ b2 (leS s).C 0 _ rfl rfl rfl ((unhide M).at 1 _ rfl)) rfl ?_
  exact ⟨rfl, (unhide M).kept⟩
set_option maxHeartbeats 2000000 in
theorem get_b (s q : List Int) (c : Int) (w : World) (hs : Byts 64 s) (hq : q.length = 64) (h8 : ∀ W, Calls Tryz.prog 70 #[aggV (leS s).C] W fun e w' => e = .returned (.tuple #[aggV (u8s q), .int .i64 c]) ∧ Kept [] W w') (hc : c = 0) (he : decide (s = q) = false) : Calls Tryz.prog 121 #[aggV (u8s s)] w fun x w' => x = .returned (.tuple #[aggV le0.C, .int .i64 12]) ∧ Kept [] w w' := by
  have P8 : ∀ W, Hid (Calls Tryz.prog 70 #[aggV (leS s).C] W fun e w' => e = .returned (.tuple #[aggV (u8s q), .int .i64 c]) ∧ Kept [] W w') := fun W => hide (h8 W)
  subst hc
  clear h8
  go_enter Tryz.func121, Tryz.ntmps121
  have M : Hid (Mm [] w w []) := hide Mm.init
  go_wp2_with (
    first
    | (refine wpBoxV rfl (.tmp 0) rfl (u8s s) rfl ?_
       intro W1 b1 e1 B1 K1
       replace M : Hid (Mm [] w W1 [(b1, 59, u8s s)]) := hide ((unhide M).new e1 B1 K1)
       clear e1 B1 K1
       refine Stp.go ?_))
  constructor
  go_wp2_with (
    first
    | (refine wpAllocW (le0.C) zero23 2 rfl rfl rfl ?_
       intro W2 b2 e2 B2 K2
       replace M : Hid (Mm [] w W2 [(b1, 59, u8s s), (b2, 73, le0.C)]) := hide ((unhide M).new e2 B2 K2)
       clear e2 B2 K2
       refine Stp.go ?_))
  constructor
  go_wp2_with fail
  refine wp_region_any mixed (wpAny_gx 9 rfl (by kernel_rfl) [some (.slice (some ⟨b1, 1, none⟩) 4 63), some (.int .i64 (ofB 0 ((s.drop 1).take 4))), some (.slice (some ⟨b1, 5, none⟩) 8 59), some (.int .i64 (ofB 0 ((s.drop 5).take 8))), some (.slice (some ⟨b1, 13, none⟩) 8 51), some (.int .i64 (ofB 0 ((s.drop 13).take 8))), some (aggV (leS s).C), none, none] rfl (by kernel_rfl) (fun l vs W => (SV W2 (leS s)) (fun i => l.getD i false) vs W) (⟨⟨rfl, rfl, rfl, Nat.le_refl _, fun _ _ _ => rfl⟩, fun h => by cases h⟩) ?_ ?_)
  · intro ix o' hi ho a' w2 l vs hls hlf hJ hout hin hdep hnot
    match ix, ho with
    | 0, ho =>
      obtain rfl := Option.some.inj ho
      have e0 := hout 1 (by kernel_rfl)
      replace e0 : a'.eval (.tmp 1) = _ := e0.trans rfl
      exact o_sl1 (.tmp 1) rfl b1 e0 ⟨_, rfl, told_of rfl, keepG (St := (SV W2 (leS s))) [7, 8] SV.loc (by omega) (by decide) hJ⟩
    | 1, ho =>
      obtain rfl := Option.some.inj ho
      have e0 : a'.eval (.tmp 7) = .slice (some ⟨b1, 1, none⟩) 4 63 := by have h9 := hin 0 7 (by kernel_rfl) (by kernel_rfl); exact h9.1.trans (told_is _ h9.2 rfl)
      refine wp_callF 149 _ _ rfl #[.slice (some ⟨b1, 1, none⟩) 4 63] (by simp [e0]) (cg26 _ _) ((number26 b1 4 1 (s.take 1) ((s.drop 1).take 4) ((s.drop 1).drop 4) w2 (by have h9 := ((unhide M).step hJ.1).at 0 _ rfl; rw [show s.take 1 ++ (s.drop 1).take 4 ++ (s.drop 1).drop 4 = s by rw [List.append_assoc, List.take_append_drop, List.take_append_drop]]; exact h9) (by rw [List.length_take, hs.len]; rfl) (by rw [List.length_take, List.length_drop, hs.len]; rfl) (fun x hx => hs.byte x (List.mem_of_mem_drop (List.mem_of_mem_take hx))) 63 (by omega)).mono ?_)
      rintro e w3 ⟨rfl, rfl⟩
      exact ⟨_, rfl, _, rfl, told_of rfl, keepG (St := (SV W2 (leS s))) [7, 8] SV.loc (by omega) (by decide) hJ⟩
    | 2, ho =>
      obtain rfl := Option.some.inj ho
      have e0 := hout 1 (by kernel_rfl)
      replace e0 : a'.eval (.tmp 1) = _ := e0.trans rfl
      exact o_sl5 (.tmp 1) rfl b1 e0 ⟨_, rfl, told_of rfl, keepG (St := (SV W2 (leS s))) [7, 8] SV.loc (by omega) (by decide) hJ⟩
    | 3, ho =>
      obtain rfl := Option.some.inj ho
      have e0 : a'.eval (.tmp 9) = .slice (some ⟨b1, 5, none⟩) 8 59 := by have h9 := hin 2 9 (by kernel_rfl) (by kernel_rfl); exact h9.1.trans (told_is _ h9.2 rfl)
      refine wp_callF 149 _ _ rfl #[.slice (some ⟨b1, 5, none⟩) 8 59] (by simp [e0]) (cg26 _ _) ((number26 b1 8 5 (s.take 5) ((s.drop 5).take 8) ((s.drop 5).drop 8) w2 (by have h9 := ((unhide M).step hJ.1).at 0 _ rfl; rw [show s.take 5 ++ (s.drop 5).take 8 ++ (s.drop 5).drop 8 = s by rw [List.append_assoc, List.take_append_drop, List.take_append_drop]]; exact h9) (by rw [List.length_take, hs.len]; rfl) (by rw [List.length_take, List.length_drop, hs.len]; rfl) (fun x hx => hs.byte x (List.mem_of_mem_drop (List.mem_of_mem_take hx))) 59 (by omega)).mono ?_)
      rintro e w3 ⟨rfl, rfl⟩
      exact ⟨_, rfl, _, rfl, told_of rfl, keepG (St := (SV W2 (leS s))) [7, 8] SV.loc (by omega) (by decide) hJ⟩
    | 4, ho =>
      obtain rfl := Option.some.inj ho
      have e0 := hout 1 (by kernel_rfl)
      replace e0 : a'.eval (.tmp 1) = _ := e0.trans rfl
      exact o_sl13 (.tmp 1) rfl b1 e0 ⟨_, rfl, told_of rfl, keepG (St := (SV W2 (leS s))) [7, 8] SV.loc (by omega) (by decide) hJ⟩
    | 5, ho =>
      obtain rfl := Option.some.inj ho
      have e0 : a'.eval (.tmp 11) = .slice (some ⟨b1, 13, none⟩) 8 51 := by have h9 := hin 4 11 (by kernel_rfl) (by kernel_rfl); exact h9.1.trans (told_is _ h9.2 rfl)
      refine wp_callF 149 _ _ rfl #[.slice (some ⟨b1, 13, none⟩) 8 51] (by simp [e0]) (cg26 _ _) ((number26 b1 8 13 (s.take 13) ((s.drop 13).take 8) ((s.drop 13).drop 8) w2 (by have h9 := ((unhide M).step hJ.1).at 0 _ rfl; rw [show s.take 13 ++ (s.drop 13).take 8 ++ (s.drop 13).drop 8 = s by rw [List.append_assoc, List.take_append_drop, List.take_append_drop]]; exact h9) (by rw [List.length_take, hs.len]; rfl) (by rw [List.length_take, List.length_drop, hs.len]; rfl) (fun x hx => hs.byte x (List.mem_of_mem_drop (List.mem_of_mem_take hx))) 51 (by omega)).mono ?_)
      rintro e w3 ⟨rfl, rfl⟩
      exact ⟨_, rfl, _, rfl, told_of rfl, keepG (St := (SV W2 (leS s))) [7, 8] SV.loc (by omega) (by decide) hJ⟩
    | 6, ho =>
      obtain rfl := Option.some.inj ho
      have e0 : a'.eval (.tmp 8) = .int .i64 (ofB 0 ((s.drop 1).take 4)) := by have h9 := hin 1 8 (by kernel_rfl) (by kernel_rfl); exact h9.1.trans (told_is _ h9.2 rfl)
      have e1 : a'.eval (.tmp 10) = .int .i64 (ofB 0 ((s.drop 5).take 8)) := by have h9 := hin 3 10 (by kernel_rfl) (by kernel_rfl); exact h9.1.trans (told_is _ h9.2 rfl)
      have e2 : a'.eval (.tmp 12) = .int .i64 (ofB 0 ((s.drop 13).take 8)) := by have h9 := hin 5 12 (by kernel_rfl) (by kernel_rfl); exact h9.1.trans (told_is _ h9.2 rfl)
      exact o_bld23 (.tmp 8) (.tmp 10) (.tmp 12) rfl _ _ _ e0 e1 e2 ⟨_, rfl, told_of rfl, keepG (St := (SV W2 (leS s))) [7, 8] SV.loc (by omega) (by decide) hJ⟩
    | 7, ho =>
      obtain rfl := Option.some.inj ho
      exact wp_allocA le0.C zero23 rfl ⟨_, rfl, told_no rfl, nextG (St := (SV W2 (leS s))) (by omega) ⟨hJ.1.alloc _, fun _ => ⟨w2.heap.size, rfl, hJ.1.size, fun _ => Blk.new w2 73 _, fun h => by have h9 : l.getD 8 false = true := h; rw [hnot 8 (by kernel_rfl)] at h9; cases h9⟩⟩⟩
    | 8, ho =>
      obtain rfl := Option.some.inj ho
      have e0 : a'.eval (.tmp 4) = vs 7 := (hin 7 4 (by kernel_rfl) (by kernel_rfl)).1
      have e1 : a'.eval (.tmp 13) = aggV (leS s).C := by have h9 := hin 6 13 (by kernel_rfl) (by kernel_rfl); exact h9.1.trans (told_is _ h9.2 rfl)
      obtain ⟨p, hp, hge, hz0, _⟩ := hJ.2 (hdep 7 (by kernel_rfl))
      exact wp_storeN row23 (.tmp 4) (.tmp 13) rfl rfl p 0 _ (e0.trans hp) e1 rfl (leC_one _) ((hz0 hlf).there (by decide)) ⟨undef, rfl, told_no rfl, nextG (St := (SV W2 (leS s))) (by omega) ⟨hJ.1.setCells _ _ (by omega), fun _ => ⟨p, hp, hge, (fun h => by cases h), fun _ => (hz0 hlf).put rfl⟩⟩⟩
  intro l_ vs4 V4 hl hJ htold
  have t0 : vs4 0 = .slice (some ⟨b1, 1, none⟩) 4 63 := told_is _ (htold 0 (by decide)) rfl
  have t1 : vs4 1 = .int .i64 (ofB 0 ((s.drop 1).take 4)) := told_is _ (htold 1 (by decide)) rfl
  have t2 : vs4 2 = .slice (some ⟨b1, 5, none⟩) 8 59 := told_is _ (htold 2 (by decide)) rfl
  have t3 : vs4 3 = .int .i64 (ofB 0 ((s.drop 5).take 8)) := told_is _ (htold 3 (by decide)) rfl
  have t4 : vs4 4 = .slice (some ⟨b1, 13, none⟩) 8 51 := told_is _ (htold 4 (by decide)) rfl
  have t5 : vs4 5 = .int .i64 (ofB 0 ((s.drop 13).take 8)) := told_is _ (htold 5 (by decide)) rfl
  have t6 : vs4 6 = aggV (leS s).C := told_is _ (htold 6 (by decide)) rfl
  rw [show (List.range 9).map vs4 = [vs4 0, vs4 1, vs4 2, vs4 3, vs4 4, vs4 5, vs4 6, vs4 7, vs4 8] from rfl]
  simp only [t0, t1, t2, t3, t4, t5, t6, putAll, Act.put, List.setIfInBounds_toArray, List.set_cons_succ, List.set_cons_zero]
  clear t0 t1 t2 t3 t4 t5 t6 htold
  obtain ⟨p, ep, hgp, _, hbp⟩ := hJ.2 (hl 7 (by decide))
  replace hbp := hbp (hl 8 (by decide))
  have hb1 : b1 < W2.heap.size := ((unhide M).at 0 _ rfl).lt
  have hb2 : b2 < W2.heap.size := ((unhide M).at 1 _ rfl).lt
  have hwz := (unhide M).kept.size
  replace M : Hid (Mm [] w V4 [(b1, 59, u8s s), (b2, 73, le0.C), (p, 73, (leS s).C)]) := hide (((unhide M).step hJ.1).add hbp (by omega) (fun x hx => by simp at hx; rcases hx with rfl | rfl <;> simp <;> omega))
  rw [ep]
  clear hJ hl ep hgp hbp hb1 hb2 hwz
  go_wp2_with (
    first
    | (refine wpLoadA row23 rfl (.tmp 4) rfl p 0 rfl ((leS s).C) rfl ((unhide M).at 2 _ rfl).range ?_
       refine Stp.go ?_))
  constructor
  go_wp2_with (
    first
    | (go_at_call 70
       refine (unhide (P8 _)).mono ?_
       rintro e W21 ⟨rfl, K21⟩
       replace M : Hid (Mm [] w W21 [(b1, 59, u8s s), (b2, 73, le0.C), (p, 73, (leS s).C)]) := hide ((unhide M).step K21)
       clear K21
       refine Stp.go ?_))
  constructor
  go_wp2_with (
    first
    | (refine wpNew row25 (u8s (zs 64)) (zl 64) zero25 5 rfl rfl rfl (.tmp 17) rfl rfl rfl (u8s q) (by rw [u8s_len]; exact hq) (u8s_one _) (by kernel_rfl) (by kernel_rfl) ?_
       intro W22 b22 e22 B22 K22
       replace M : Hid (Mm [] w W22 [(b1, 59, u8s s), (b2, 73, le0.C), (p, 73, (leS s).C), (b22, 59, u8s q)]) := hide ((unhide M).new e22 B22 K22)
       clear e22 B22 K22
       refine Stp.go ?_))
  constructor
  go_wp2_with (
    first
    | (refine wpLoadG row25 (.tmp 1) rfl rfl b1 0 rfl (u8s s) (by rw [u8s_len]; exact hs.len) ((unhide M).at 0 _ rfl).range ?_
       refine Stp.go ?_))
  constructor
  go_wp2_with (
    first
    | (refine wpLoadG row25 (.tmp 5) rfl rfl b22 0 rfl (u8s q) (by rw [u8s_len]; exact hq) ((unhide M).at 3 _ rfl).range ?_
       refine Stp.go ?_))
  constructor
  go_wp2_with (
    first
    | (refine wpNeqG 59 59 guard25 (.tmp 22) (.tmp 23) rfl rfl (u8s s) (u8s q) rfl rfl false ((equal25 _ s q hs.len hq).trans (by rw [he])) ?_
       refine Stp.go ?_))
  constructor
  go_wp2_with (
    first
    | (refine wpBuildZ (T := 73) le0.C build23 rfl rfl ?_
       refine Stp.go ?_))
  constructor
  go_wp2_with (
    first
    | (refine wpStoreM row23 rfl (.tmp 2) (.tmp 26) rfl rfl b2 1 (le0.C) rfl rfl rfl (leC_one _) (unhide M) rfl rfl ?_
       intro W23 N23
       replace M : Hid (Mm [] w W23 [(b1, 59, u8s s), (b2, 73, le0.C), (p, 73, (leS s).C), (b22, 59, u8s q)]) := hide N23
       clear N23
       refine Stp.go ?_))
  constructor
  go_wp2_with fail
  refine bodyPost_ret (res9 _ b2 le0.C 12 _ rfl rfl rfl ((unhide M).at 1 _ rfl)) rfl ?_
  exact ⟨rfl, (unhide M).kept⟩
set_option maxHeartbeats 2000000 in
theorem get_c (s q : List Int) (c : Int) (w : World) (hs : Byts 64 s) (hq : q.length = 64) (h8 : ∀ W, Calls Tryz.prog 70 #[aggV (leS s).C] W fun e w' => e = .returned (.tuple #[aggV (u8s q), .int .i64 c]) ∧ Kept [] W w') (hc : ¬ c = 0) : Calls Tryz.prog 121 #[aggV (u8s s)] w fun x w' => x = .returned (.tuple #[aggV le0.C, .int .i64 12]) ∧ Kept [] w w' := by
  have P8 : ∀ W, Hid (Calls Tryz.prog 70 #[aggV (leS s).C] W fun e w' => e = .returned (.tuple #[aggV (u8s q), .int .i64 c]) ∧ Kept [] W w') := fun W => hide (h8 W)
  have hdc : (c == 0) = false := by simpa using hc
  have hdn : (c != 0) = true := by simpa using hc
  clear h8
  go_enter Tryz.func121, Tryz.ntmps121
  have M : Hid (Mm [] w w []) := hide Mm.init
  go_wp2_with (
    first
    | (refine wpBoxV rfl (.tmp 0) rfl (u8s s) rfl ?_
       intro W1 b1 e1 B1 K1
       replace M : Hid (Mm [] w W1 [(b1, 59, u8s s)]) := hide ((unhide M).new e1 B1 K1)
       clear e1 B1 K1
       refine Stp.go ?_))
  constructor
  go_wp2_with (
    first
    | (refine wpAllocW (le0.C) zero23 2 rfl rfl rfl ?_
       intro W2 b2 e2 B2 K2
       replace M : Hid (Mm [] w W2 [(b1, 59, u8s s), (b2, 73, le0.C)]) := hide ((unhide M).new e2 B2 K2)
       clear e2 B2 K2
       refine Stp.go ?_))
  constructor
  go_wp2_with fail
  refine wp_region_any mixed (wpAny_gx 9 rfl (by kernel_rfl) [some (.slice (some ⟨b1, 1, none⟩) 4 63), some (.int .i64 (ofB 0 ((s.drop 1).take 4))), some (.slice (some ⟨b1, 5, none⟩) 8 59), some (.int .i64 (ofB 0 ((s.drop 5).take 8))), some (.slice (some ⟨b1, 13, none⟩) 8 51), some (.int .i64 (ofB 0 ((s.drop 13).take 8))), some (aggV (leS s).C), none, none] rfl (by kernel_rfl) (fun l vs W => (SV W2 (leS s)) (fun i => l.getD i false) vs W) (⟨⟨rfl, rfl, rfl, Nat.le_refl _, fun _ _ _ => rfl⟩, fun h => by cases h⟩) ?_ ?_)
  · intro ix o' hi ho a' w2 l vs hls hlf hJ hout hin hdep hnot
    match ix, ho with
    | 0, ho =>
      obtain rfl := Option.some.inj ho
      have e0 := hout 1 (by kernel_rfl)
      replace e0 : a'.eval (.tmp 1) = _ := e0.trans rfl
      exact o_sl1 (.tmp 1) rfl b1 e0 ⟨_, rfl, told_of rfl, keepG (St := (SV W2 (leS s))) [7, 8] SV.loc (by omega) (by decide) hJ⟩
    | 1, ho =>
      obtain rfl := Option.some.inj ho
      have e0 : a'.eval (.tmp 7) = .slice (some ⟨b1, 1, none⟩) 4 63 := by have h9 := hin 0 7 (by kernel_rfl) (by kernel_rfl); exact h9.1.trans (told_is _ h9.2 rfl)
      refine wp_callF 149 _ _ rfl #[.slice (some ⟨b1, 1, none⟩) 4 63] (by simp [e0]) (cg26 _ _) ((number26 b1 4 1 (s.take 1) ((s.drop 1).take 4) ((s.drop 1).drop 4) w2 (by have h9 := ((unhide M).step hJ.1).at 0 _ rfl; rw [show s.take 1 ++ (s.drop 1).take 4 ++ (s.drop 1).drop 4 = s by rw [List.append_assoc, List.take_append_drop, List.take_append_drop]]; exact h9) (by rw [List.length_take, hs.len]; rfl) (by rw [List.length_take, List.length_drop, hs.len]; rfl) (fun x hx => hs.byte x (List.mem_of_mem_drop (List.mem_of_mem_take hx))) 63 (by omega)).mono ?_)
      rintro e w3 ⟨rfl, rfl⟩
      exact ⟨_, rfl, _, rfl, told_of rfl, keepG (St := (SV W2 (leS s))) [7, 8] SV.loc (by omega) (by decide) hJ⟩
    | 2, ho =>
      obtain rfl := Option.some.inj ho
      have e0 := hout 1 (by kernel_rfl)
      replace e0 : a'.eval (.tmp 1) = _ := e0.trans rfl
      exact o_sl5 (.tmp 1) rfl b1 e0 ⟨_, rfl, told_of rfl, keepG (St := (SV W2 (leS s))) [7, 8] SV.loc (by omega) (by decide) hJ⟩
    | 3, ho =>
      obtain rfl := Option.some.inj ho
      have e0 : a'.eval (.tmp 9) = .slice (some ⟨b1, 5, none⟩) 8 59 := by have h9 := hin 2 9 (by kernel_rfl) (by kernel_rfl); exact h9.1.trans (told_is _ h9.2 rfl)
      refine wp_callF 149 _ _ rfl #[.slice (some ⟨b1, 5, none⟩) 8 59] (by simp [e0]) (cg26 _ _) ((number26 b1 8 5 (s.take 5) ((s.drop 5).take 8) ((s.drop 5).drop 8) w2 (by have h9 := ((unhide M).step hJ.1).at 0 _ rfl; rw [show s.take 5 ++ (s.drop 5).take 8 ++ (s.drop 5).drop 8 = s by rw [List.append_assoc, List.take_append_drop, List.take_append_drop]]; exact h9) (by rw [List.length_take, hs.len]; rfl) (by rw [List.length_take, List.length_drop, hs.len]; rfl) (fun x hx => hs.byte x (List.mem_of_mem_drop (List.mem_of_mem_take hx))) 59 (by omega)).mono ?_)
      rintro e w3 ⟨rfl, rfl⟩
      exact ⟨_, rfl, _, rfl, told_of rfl, keepG (St := (SV W2 (leS s))) [7, 8] SV.loc (by omega) (by decide) hJ⟩
    | 4, ho =>
      obtain rfl := Option.some.inj ho
      have e0 := hout 1 (by kernel_rfl)
      replace e0 : a'.eval (.tmp 1) = _ := e0.trans rfl
      exact o_sl13 (.tmp 1) rfl b1 e0 ⟨_, rfl, told_of rfl, keepG (St := (SV W2 (leS s))) [7, 8] SV.loc (by omega) (by decide) hJ⟩
    | 5, ho =>
      obtain rfl := Option.some.inj ho
      have e0 : a'.eval (.tmp 11) = .slice (some ⟨b1, 13, none⟩) 8 51 := by have h9 := hin 4 11 (by kernel_rfl) (by kernel_rfl); exact h9.1.trans (told_is _ h9.2 rfl)
      refine wp_callF 149 _ _ rfl #[.slice (some ⟨b1, 13, none⟩) 8 51] (by simp [e0]) (cg26 _ _) ((number26 b1 8 13 (s.take 13) ((s.drop 13).take 8) ((s.drop 13).drop 8) w2 (by have h9 := ((unhide M).step hJ.1).at 0 _ rfl; rw [show s.take 13 ++ (s.drop 13).take 8 ++ (s.drop 13).drop 8 = s by rw [List.append_assoc, List.take_append_drop, List.take_append_drop]]; exact h9) (by rw [List.length_take, hs.len]; rfl) (by rw [List.length_take, List.length_drop, hs.len]; rfl) (fun x hx => hs.byte x (List.mem_of_mem_drop (List.mem_of_mem_take hx))) 51 (by omega)).mono ?_)
      rintro e w3 ⟨rfl, rfl⟩
      exact ⟨_, rfl, _, rfl, told_of rfl, keepG (St := (SV W2 (leS s))) [7, 8] SV.loc (by omega) (by decide) hJ⟩
    | 6, ho =>
      obtain rfl := Option.some.inj ho
      have e0 : a'.eval (.tmp 8) = .int .i64 (ofB 0 ((s.drop 1).take 4)) := by have h9 := hin 1 8 (by kernel_rfl) (by kernel_rfl); exact h9.1.trans (told_is _ h9.2 rfl)
      have e1 : a'.eval (.tmp 10) = .int .i64 (ofB 0 ((s.drop 5).take 8)) := by have h9 := hin 3 10 (by kernel_rfl) (by kernel_rfl); exact h9.1.trans (told_is _ h9.2 rfl)
      have e2 : a'.eval (.tmp 12) = .int .i64 (ofB 0 ((s.drop 13).take 8)) := by have h9 := hin 5 12 (by kernel_rfl) (by kernel_rfl); exact h9.1.trans (told_is _ h9.2 rfl)
      exact o_bld23 (.tmp 8) (.tmp 10) (.tmp 12) rfl _ _ _ e0 e1 e2 ⟨_, rfl, told_of rfl, keepG (St := (SV W2 (leS s))) [7, 8] SV.loc (by omega) (by decide) hJ⟩
    | 7, ho =>
      obtain rfl := Option.some.inj ho
      exact wp_allocA le0.C zero23 rfl ⟨_, rfl, told_no rfl, nextG (St := (SV W2 (leS s))) (by omega) ⟨hJ.1.alloc _, fun _ => ⟨w2.heap.size, rfl, hJ.1.size, fun _ => Blk.new w2 73 _, fun h => by have h9 : l.getD 8 false = true := h; rw [hnot 8 (by kernel_rfl)] at h9; cases h9⟩⟩⟩
    | 8, ho =>
      obtain rfl := Option.some.inj ho
      have e0 : a'.eval (.tmp 4) = vs 7 := (hin 7 4 (by kernel_rfl) (by kernel_rfl)).1
      have e1 : a'.eval (.tmp 13) = aggV (leS s).C := by have h9 := hin 6 13 (by kernel_rfl) (by kernel_rfl); exact h9.1.trans (told_is _ h9.2 rfl)
      obtain ⟨p, hp, hge, hz0, _⟩ := hJ.2 (hdep 7 (by kernel_rfl))
      exact wp_storeN row23 (.tmp 4) (.tmp 13) rfl rfl p 0 _ (e0.trans hp) e1 rfl (leC_one _) ((hz0 hlf).there (by decide)) ⟨undef, rfl, told_no rfl, nextG (St := (SV W2 (leS s))) (by omega) ⟨hJ.1.setCells _ _ (by omega), fun _ => ⟨p, hp, hge, (fun h => by cases h), fun _ => (hz0 hlf).put rfl⟩⟩⟩
  intro l_ vs4 V4 hl hJ htold
  have t0 : vs4 0 = .slice (some ⟨b1, 1, none⟩) 4 63 := told_is _ (htold 0 (by decide)) rfl
  have t1 : vs4 1 = .int .i64 (ofB 0 ((s.drop 1).take 4)) := told_is _ (htold 1 (by decide)) rfl
  have t2 : vs4 2 = .slice (some ⟨b1, 5, none⟩) 8 59 := told_is _ (htold 2 (by decide)) rfl
  have t3 : vs4 3 = .int .i64 (ofB 0 ((s.drop 5).take 8)) := told_is _ (htold 3 (by decide)) rfl
  have t4 : vs4 4 = .slice (some ⟨b1, 13, none⟩) 8 51 := told_is _ (htold 4 (by decide)) rfl
  have t5 : vs4 5 = .int .i64 (ofB 0 ((s.drop 13).take 8)) := told_is _ (htold 5 (by decide)) rfl
  have t6 : vs4 6 = aggV (leS s).C := told_is _ (htold 6 (by decide)) rfl
  rw [show (List.range 9).map vs4 = [vs4 0, vs4 1, vs4 2, vs4 3, vs4 4, vs4 5, vs4 6, vs4 7, vs4 8] from rfl]
  simp only [t0, t1, t2, t3, t4, t5, t6, putAll, Act.put, List.setIfInBounds_toArray, List.set_cons_succ, List.set_cons_zero]
  clear t0 t1 t2 t3 t4 t5 t6 htold
  obtain ⟨p, ep, hgp, _, hbp⟩ := hJ.2 (hl 7 (by decide))
  replace hbp := hbp (hl 8 (by decide))
  have hb1 : b1 < W2.heap.size := ((unhide M).at 0 _ rfl).lt
  have hb2 : b2 < W2.heap.size := ((unhide M).at 1 _ rfl).lt
  have hwz := (unhide M).kept.size
  replace M : Hid (Mm [] w V4 [(b1, 59, u8s s), (b2, 73, le0.C), (p, 73, (leS s).C)]) := hide (((unhide M).step hJ.1).add hbp (by omega) (fun x hx => by simp at hx; rcases hx with rfl | rfl <;> simp <;> omega))
  rw [ep]
  clear hJ hl ep hgp hbp hb1 hb2 hwz
  go_wp2_with (
    first
    | (refine wpLoadA row23 rfl (.tmp 4) rfl p 0 rfl ((leS s).C) rfl ((unhide M).at 2 _ rfl).range ?_
       refine Stp.go ?_))
  constructor
  go_wp2_with (
    first
    | (go_at_call 70
       refine (unhide (P8 _)).mono ?_
       rintro e W21 ⟨rfl, K21⟩
       replace M : Hid (Mm [] w W21 [(b1, 59, u8s s), (b2, 73, le0.C), (p, 73, (leS s).C)]) := hide ((unhide M).step K21)
       clear K21
       refine Stp.go ?_))
  constructor
  go_wp2_with (
    first
    | (refine wpNew row25 (u8s (zs 64)) (zl 64) zero25 5 rfl rfl rfl (.tmp 17) rfl rfl rfl (u8s q) (by rw [u8s_len]; exact hq) (u8s_one _) (by kernel_rfl) (by kernel_rfl) ?_
       intro W22 b22 e22 B22 K22
       replace M : Hid (Mm [] w W22 [(b1, 59, u8s s), (b2, 73, le0.C), (p, 73, (leS s).C), (b22, 59, u8s q)]) := hide ((unhide M).new e22 B22 K22)
       clear e22 B22 K22
       refine Stp.go ?_))
  constructor
  go_wp2_with (
    first
    | (refine wpBuildZ (T := 73) le0.C build23 rfl rfl ?_
       refine Stp.go ?_))
  constructor
  go_wp2_with (
    first
    | (refine wpStoreM row23 rfl (.tmp 2) (.tmp 26) rfl rfl b2 1 (le0.C) rfl rfl rfl (leC_one _) (unhide M) rfl rfl ?_
       intro W23 N23
       replace M : Hid (Mm [] w W23 [(b1, 59, u8s s), (b2, 73, le0.C), (p, 73, (leS s).C), (b22, 59, u8s q)]) := hide N23
       clear N23
       refine Stp.go ?_))
  constructor
  go_wp2_with fail
  refine bodyPost_ret (res9 _ b2 le0.C 12 _ rfl rfl rfl ((unhide M).at 1 _ rfl)) rfl ?_
  exact ⟨rfl, (unhide M).kept⟩
theorem get9 (s : List Int) (w : World) (hs : Byts 64 s) : Calls Tryz.prog 121 #[aggV (u8s s)] w fun x w' => x = .returned (.tuple #[aggV (getL s).1.C, .int .i64 (getL s).2]) ∧ Kept [] w w' := by
  unfold getL
  have h8 := fun W => put8 (leS s) W
  have hl := putL_len (leS s)
  by_cases hc : (putL (leS s)).2 = 0
  · by_cases he : s = (putL (leS s)).1
    · rw [if_pos (Prod.ext he.symm hc)]
      exact get_a s _ _ w hs hl h8 hc (by simpa using he)
    · rw [if_neg (fun h => he (by rw [h]))]
      exact get_b s _ _ w hs hl h8 hc (by simpa using he)
  · rw [if_neg (fun h => hc (by rw [h]))]
    exact get_c s _ _ w hs hl h8 hc
theorem wrap_two (n x : Int) : wrap64 (wrap64 (n * 256) + x) = wrap64 (n * 256 + x) := by unfold wrap64; omega
end Go.Proofs.YtcfflbafclmheaaGreatDoor.Le
