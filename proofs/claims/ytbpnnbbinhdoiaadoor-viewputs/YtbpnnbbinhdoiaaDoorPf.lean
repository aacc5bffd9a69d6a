/-
  The document's Put.
-/
import Derived.Test.YtbpnnbbinhdoiaaDoorPe
import Derived.Test.YtbpnnbbinhdoiaaDoorVd
namespace Go.Proofs.YtbpnnbbinhdoiaaDoor
set_option maxRecDepth 100000
open Go.RowKit


theorem res15 (w : World) (z : Nat) (vs : List Value) (tmps : Array Value) (h4 : tmps[2]?.getD undef = P0 z) (hl : vs.length = 64) (hb : Blk w z 28 vs) : (results Tryd.f15 tmps).run Tryd.prog w = .ok (aggV vs) w := by
  have := loadV row28 hl hb
  simp [results, Tryd.results15, h4, this, asAddr]
section
variable {ops : Array Oper} {rest : List Oper} {op : Oper} {a : Act} {w w0 : World} {Q : Exit → Act → World → Prop} {bs : List (Nat × Nat × List Value)}
theorem wpRem256 (hgd : op.guard = none) (x : Operand) (ho : op.op = .binOp .rem 2 x (.const (.int .i64 256)) 2) (m : Int) (hm : 0 ≤ m ∧ m ≤ 9223372036854775807) (hx : a.eval x = .int .i64 m)
    (h : wpList Tryd.prog ops Q rest (a.put op.dst (.int .i64 (m % 256))) w) : wpList Tryd.prog ops Q (op :: rest) a w :=
  wpList_plain hgd fun K hK => by
    have ht : Int.tmod m 256 = m % 256 := Int.tmod_eq_emod_of_nonneg hm.1
    unfold Oper.wp execOp
    simp only [ho, hx]
    simp [go_sem, Act.eval, ht]
    exact hK _ _ h
theorem wpQuo256 (hgd : op.guard = none) (x : Operand) (ho : op.op = .binOp .quo 2 x (.const (.int .i64 256)) 2) (m : Int) (hm : 0 ≤ m ∧ m ≤ 9223372036854775807) (hx : a.eval x = .int .i64 m)
    (h : wpList Tryd.prog ops Q rest (a.put op.dst (.int .i64 (m / 256))) w) : wpList Tryd.prog ops Q (op :: rest) a w :=
  wpList_plain hgd fun K hK => by
    have ht : Int.tdiv m 256 = m / 256 := Int.tdiv_eq_ediv_of_nonneg hm.1
    have hw : IntKind.i64.wrap (m / 256) = m / 256 := by rw [IntKind.wrap_i64]; omega
    unfold Oper.wp execOp
    simp only [ho, hx]
    simp [go_sem, Act.eval, ht, hw]
    exact hK _ _ h
/-- One cell of a block that is kept in mind is written; the cells that it then has are told. -/
theorem wpStoreMT {T : Nat} (hs : (Tryd.prog.info? T).map (·.size) = some 1) (hgd : op.guard = none) (x y : Operand) (ho : op.op = .store T x y) (hd : op.dst = none) (b off i : Nat) (v : Value) (h1 : One v) (hx : a.eval x = .pointer (some ⟨b, off, none⟩)) (hy : a.eval y = v) (hM : Mm w0 w bs) {TT : Nat} {us : List Value} (vs : List Value) (hi : bs[i]? = some (b, TT, us)) (hl : off < us.length) (he : us.set off v = vs)
    (h : ∀ W, Mm w0 W (bs.set i (b, TT, vs)) → wpList Tryd.prog ops Q rest a W) : wpList Tryd.prog ops Q (op :: rest) a w := by
  subst he
  exact wpStoreM1 hs hgd x y ho hd b off i v h1 hx hy hM hi hl h
end
/-- A list in which a byte is written. -/
theorem set_in (A B : List Int) (x y : Int) (n : Nat) (h : A.length = n) : (u8s (A ++ x :: B)).set n (.int .u8 y) = u8s (A ++ y :: B) := by rw [u8s_set, set_at _ _ _ _ _ h]
def rsec (o f A : Int) (nb : List Int) (z : Nat) (l : List (Bool × Int)) : List Int := [193, o, f, A] ++ nb ++ zs z ++ epB l ++ zs 20
theorem rsec_cut (o f A : Int) (nb : List Int) (j : Nat) (l : List (Bool × Int)) : rsec o f A nb (4 * (j + 1)) l = ([193, o, f, A] ++ nb ++ zs (4 * j)) ++ zs 4 ++ (epB l ++ zs 20) := by
  unfold rsec
  rw [show zs (4 * (j + 1)) = zs (4 * j) ++ zs 4 by simp only [zs, List.replicate_append_replicate]; congr 1]
  simp
theorem rsec_next (o f A : Int) (nb : List Int) (j : Nat) (m : Bool × Int) (l : List (Bool × Int)) : ([193, o, f, A] ++ nb ++ zs (4 * j)) ++ be 4 m.2 ++ (epB l ++ zs 20) = rsec o f A nb (4 * j) (m :: l) := by
  unfold rsec
  have : epB (m :: l) = be 4 m.2 ++ epB l := rfl
  rw [this]
  simp
theorem take_zs (k n : Nat) (h : k < n) : (zs n).take (k + 1) = (zs n).take k ++ [0] := by
  unfold zs
  rw [List.take_replicate, List.take_replicate, show min (k + 1) n = k + 1 by omega, show min k n = k by omega, List.replicate_succ']
set_option maxHeartbeats 2000000 in
theorem rput_f (v : Vw) (w : World) (hF : First w) (hok : v.Ok) (hq : decide (v = fv) = true) : Calls Tryd.prog 15 #[aggV (vwC v)] w fun e w' => e = .returned (aggV (u8s (zs 64))) ∧ Kept [] w w' := by
  go_enter Tryd.func15, Tryd.ntmps15
  have M : Hid (Mm w w []) := hide (Mm.init hF)
  go_wp2_with (
    first
    | (refine wpBoxV rfl (.tmp 0) rfl (vwC v) rfl ?_
       intro W1 b1 e1 B1 K1
       replace M : Hid (Mm w W1 [(b1, 26, vwC v)]) := hide ((unhide M).new e1 B1 K1)
       clear e1 B1 K1
       refine Stp.go ?_))
  constructor
  go_wp2_with (
    first
    | (refine wpAllocW (u8s (zs 64)) zero28 2 rfl rfl rfl ?_
       intro W2 b2 e2 B2 K2
       replace M : Hid (Mm w W2 [(b1, 26, vwC v), (b2, 28, u8s (zs 64))]) := hide ((unhide M).new e2 B2 K2)
       clear e2 B2 K2
       refine Stp.go ?_))
  constructor
  go_wp2_with (
    first
    | (refine wpAllocW (u8s (zs 64)) zero28 3 rfl rfl rfl ?_
       intro W3 b3 e3 B3 K3
       replace M : Hid (Mm w W3 [(b1, 26, vwC v), (b2, 28, u8s (zs 64)), (b3, 28, u8s (zs 64))]) := hide ((unhide M).new e3 B3 K3)
       clear e3 B3 K3
       refine Stp.go ?_))
  constructor
  go_wp2_with fail
  refine wp_region_any mixed (wpAny_tq 3 rfl (by kernel_rfl) [some (aggV (vwC v)), some (aggV (vwC fv)), some (.bool true)] rfl (by kernel_rfl) (by kernel_rfl) ?_ ?_)
  · intro i o' hi hsk ho a' w2 hout hin hk2
    replace hk2 : Kept [] W3 w2 := ⟨hk2.os, hk2.tape, hk2.output, hk2.size, hk2.block⟩
    match i, ho, hsk with
    | 0, ho, hsk =>
      obtain rfl := Option.some.inj ho
      exact wp_loadA row26 (.tmp 1) rfl b1 0 ((hout 1 (by kernel_rfl)).trans rfl) (vwC v) (vwC_len hok.len) (((unhide M).step hk2).at 0 _ rfl).range ⟨_, rfl, tq_is _ _ _ _ rfl, Kept.refl _ _, fun _ _ _ _ _ => trivial⟩
    | 1, ho, hsk =>
      obtain rfl := Option.some.inj ho
      refine wp_callF 31 _ _ rfl #[] (by simp) (cg31 _ _) ((first31 _).mono ?_)
      rintro e w3 ⟨rfl, hk3⟩
      exact ⟨_, rfl, _, rfl, tq_is _ _ _ _ rfl, hk3, fun _ _ _ _ _ => trivial⟩
    | 2, ho, hsk =>
      obtain rfl := Option.some.inj ho
      have e0 : a'.eval (.tmp 10) = aggV (vwC v) := is_tq (hin 0 10 (by kernel_rfl) (by kernel_rfl)) rfl
      have e1 : a'.eval (.tmp 11) = aggV (vwC fv) := is_tq (hin 1 11 (by kernel_rfl) (by kernel_rfl)) rfl
      exact o_eqlA 26 26 guard26 (.tmp 10) (.tmp 11) rfl (vwC v) (vwC fv) e0 e1 true ((equal26 _ v fv hok.len rfl).trans (by rw [hq])) ⟨_, rfl, tq_is _ _ _ _ rfl, Kept.refl _ _, fun _ _ _ _ _ => trivial⟩
  intro w9 hk9
  replace hk9 : Kept [] W3 w9 := ⟨hk9.os, hk9.tape, hk9.output, hk9.size, hk9.block⟩
  simp only [valsQ, List.map_cons, List.map_nil, Option.getD_some, List.take_succ_cons, List.take_zero, putAll, Act.put, List.setIfInBounds_toArray, List.set_cons_succ, List.set_cons_zero]
  refine wpAny_done (by kernel_rfl) ?_ _
  replace M : Hid (Mm w w9 [(b1, 26, vwC v), (b2, 28, u8s (zs 64)), (b3, 28, u8s (zs 64))]) := hide ((unhide M).step hk9)
  clear hk9
  go_wp2_with (
    first
    | (refine wpLoadA row28 rfl (.tmp 3) rfl b3 0 rfl (u8s (zs 64)) (zl 64) ((unhide M).at 2 _ rfl).range ?_
       refine Stp.go ?_))
  constructor
  go_wp2_with (
    first
    | (refine wpStoreM row28 rfl (.tmp 2) (.tmp 13) rfl rfl b2 1 (u8s (zs 64)) rfl rfl (zl 64) (u8s_one _) (unhide M) rfl (zl 64) ?_
       intro W21 N21
       replace M : Hid (Mm w W21 [(b1, 26, vwC v), (b2, 28, u8s (zs 64)), (b3, 28, u8s (zs 64))]) := hide N21
       clear N21
       refine Stp.go ?_))
  constructor
  go_wp2_with fail
  refine bodyPost_ret (res15 _ b2 (u8s (zs 64)) _ rfl (zl 64) ((unhide M).at 1 _ rfl)) rfl ?_
  exact ⟨rfl, (unhide M).kept⟩
set_option maxHeartbeats 16000000 in
theorem rput_true (v : Vw) (w : World) (hF : First w) (hok : v.Ok) (hm : v.may = true) (hq : decide (v = fv) = false) (hop : v.op = true) : Calls Tryd.prog 15 #[aggV (vwC v)] w fun e w' => e = .returned (aggV (u8s (secL 1 (v.fd % 256) ((bitF 0 v.ms : Nat) : Int) v.nu v.ms 20))) ∧ Kept [] w w' := by
  have HNU : Hid (0 ≤ v.nu ∧ v.nu ≤ 9223372036854775807) := by have := may_nu hm; constructor <;> omega
  have HMAY := hide hm
  have HBL : Hid (bitF 0 v.ms < 256) := by
    have := bitF_lt v.ms 0
    rw [hok.len] at this
    show _ < _
    simp at this
    omega
  have HL20 : Hid ((u8s (secL 1 (v.fd % 256) ((bitF 0 v.ms : Nat) : Int) v.nu v.ms 20)).length = 64) := by show _ = _; rw [u8s_len, secL_len, hok.len]
  go_enter Tryd.func15, Tryd.ntmps15
  have M : Hid (Mm w w []) := hide (Mm.init hF)
  go_wp2_with (
    first
    | (refine wpBoxV rfl (.tmp 0) rfl (vwC v) rfl ?_
       intro W1 b1 e1 B1 K1
       replace M : Hid (Mm w W1 [(b1, 26, vwC v)]) := hide ((unhide M).new e1 B1 K1)
       clear e1 B1 K1
       refine Stp.go ?_))
  constructor
  go_wp2_with (
    first
    | (refine wpAllocW (u8s (zs 64)) zero28 2 rfl rfl rfl ?_
       intro W2 b2 e2 B2 K2
       replace M : Hid (Mm w W2 [(b1, 26, vwC v), (b2, 28, u8s (zs 64))]) := hide ((unhide M).new e2 B2 K2)
       clear e2 B2 K2
       refine Stp.go ?_))
  constructor
  go_wp2_with (
    first
    | (refine wpAllocW (u8s (zs 64)) zero28 3 rfl rfl rfl ?_
       intro W3 b3 e3 B3 K3
       replace M : Hid (Mm w W3 [(b1, 26, vwC v), (b2, 28, u8s (zs 64)), (b3, 28, u8s (zs 64))]) := hide ((unhide M).new e3 B3 K3)
       clear e3 B3 K3
       refine Stp.go ?_))
  constructor
  go_wp2_with fail
  refine wp_region_any mixed (wpAny_tq 3 rfl (by kernel_rfl) [some (aggV (vwC v)), some (aggV (vwC fv)), some (.bool false)] rfl (by kernel_rfl) (by kernel_rfl) ?_ ?_)
  · intro i o' hi hsk ho a' w2 hout hin hk2
    replace hk2 : Kept [] W3 w2 := ⟨hk2.os, hk2.tape, hk2.output, hk2.size, hk2.block⟩
    match i, ho, hsk with
    | 0, ho, hsk =>
      obtain rfl := Option.some.inj ho
      exact wp_loadA row26 (.tmp 1) rfl b1 0 ((hout 1 (by kernel_rfl)).trans rfl) (vwC v) (vwC_len hok.len) (((unhide M).step hk2).at 0 _ rfl).range ⟨_, rfl, tq_is _ _ _ _ rfl, Kept.refl _ _, fun _ _ _ _ _ => trivial⟩
    | 1, ho, hsk =>
      obtain rfl := Option.some.inj ho
      refine wp_callF 31 _ _ rfl #[] (by simp) (cg31 _ _) ((first31 _).mono ?_)
      rintro e w3 ⟨rfl, hk3⟩
      exact ⟨_, rfl, _, rfl, tq_is _ _ _ _ rfl, hk3, fun _ _ _ _ _ => trivial⟩
    | 2, ho, hsk =>
      obtain rfl := Option.some.inj ho
      have e0 : a'.eval (.tmp 10) = aggV (vwC v) := is_tq (hin 0 10 (by kernel_rfl) (by kernel_rfl)) rfl
      have e1 : a'.eval (.tmp 11) = aggV (vwC fv) := is_tq (hin 1 11 (by kernel_rfl) (by kernel_rfl)) rfl
      exact o_eqlA 26 26 guard26 (.tmp 10) (.tmp 11) rfl (vwC v) (vwC fv) e0 e1 false ((equal26 _ v fv hok.len rfl).trans (by rw [hq])) ⟨_, rfl, tq_is _ _ _ _ rfl, Kept.refl _ _, fun _ _ _ _ _ => trivial⟩
  intro w9 hk9
  replace hk9 : Kept [] W3 w9 := ⟨hk9.os, hk9.tape, hk9.output, hk9.size, hk9.block⟩
  simp only [valsQ, List.map_cons, List.map_nil, Option.getD_some, List.take_succ_cons, List.take_zero, putAll, Act.put, List.setIfInBounds_toArray, List.set_cons_succ, List.set_cons_zero]
  refine wpAny_done (by kernel_rfl) ?_ _
  replace M : Hid (Mm w w9 [(b1, 26, vwC v), (b2, 28, u8s (zs 64)), (b3, 28, u8s (zs 64))]) := hide ((unhide M).step hk9)
  clear hk9
  go_wp2_with (
    first
    | (refine wpStoreM1 size5 rfl (.tmp 14) (.const (.int .u8 193)) rfl rfl b3 0 2 (.int .u8 193) ⟨rfl, rfl⟩ rfl rfl (unhide M) rfl (by simp [u8s, zs]) ?_
       intro W21 N21
       replace M : Hid (Mm w W21 [(b1, 26, vwC v), (b2, 28, u8s (zs 64)), (b3, 28, u8s ([193, 0, 0, 0] ++ zs 60))]) := hide N21
       clear N21
       have c1 : W21.cell? ⟨b1, 1, none⟩ = some (.bool true) := by rw [← hop]; exact fits_cell ((unhide M).at 0 _ rfl) 1 _ rfl
       refine Stp.go ?_))
  constructor
  go_wp2_with (
    first
    | (refine wpStoreM1 size5 rfl (.tmp 17) (.const (.int .u8 1)) rfl rfl b3 1 2 (.int .u8 1) ⟨rfl, rfl⟩ rfl rfl (unhide M) rfl (by simp [u8s, zs]) ?_
       intro W22 N22
       replace M : Hid (Mm w W22 [(b1, 26, vwC v), (b2, 28, u8s (zs 64)), (b3, 28, u8s ([193, 1, 0, 0] ++ zs 60))]) := hide N22
       clear N22
       clear c1
       have c2 := fits_cell ((unhide M).at 0 _ rfl) 2 _ rfl
       refine Stp.go ?_))
  constructor
  go_wp2_with (
    first
    | (refine wpStoreM1 size5 rfl (.tmp 21) (.tmp 20) rfl rfl b3 2 2 (.int .u8 (v.fd % 256)) ⟨rfl, rfl⟩ rfl rfl (unhide M) rfl (by simp [u8s, zs]) ?_
       intro W23 N23
       replace M : Hid (Mm w W23 [(b1, 26, vwC v), (b2, 28, u8s (zs 64)), (b3, 28, u8s ([193, 1, v.fd % 256, 0] ++ zs 60))]) := hide N23
       clear N23
       clear c2
       refine Stp.go ?_))
  constructor
  go_wp2_with fail
  go_loopw [4, 5] (fun xb xn wr => ∃ j : Nat, j ≤ 8 ∧ xb = .int .i64 ((bitF 0 (v.ms.drop j) : Nat) : Int) ∧ xn = .int .i64 ((j : Int) - 1) ∧ Hid (Mm w wr [(b1, 26, vwC v), (b2, 28, u8s (zs 64)), (b3, 28, u8s (rsec 1 (v.fd % 256) 0 (zs 8) (4 * j) (v.ms.drop j)))])) (fun _ i _ => (intOf i + 1).toNat)
  case atStart => exact ⟨8, by omega, by rw [List.drop_of_length_le (by rw [hok.len]; exact Nat.le_refl _)]; rfl, rfl, by rw [List.drop_of_length_le (by rw [hok.len]; exact Nat.le_refl _)]; exact M⟩
  case round =>
    clear M
    obtain ⟨j, hj, rfl, rfl, M⟩ := hrel
    cases j with
    | succ j =>
      have e1 : ((j + 1 : Nat) : Int) - 1 = (j : Int) := by omega
      rw [e1]
      clear e1
      obtain ⟨m, hm2⟩ : ∃ m, v.ms[j]? = some m := ⟨_, List.getElem?_eq_getElem (by rw [hok.len]; omega)⟩
      have hj8 : (j : Int) < 8 := by omega
      obtain ⟨Bt, hBt⟩ : ∃ Bt, Bt = bitF 0 (v.ms.drop (j + 1)) := ⟨_, rfl⟩
      have hBb : Bt < 256 := by
        have := bitF_lt (v.ms.drop (j + 1)) 0
        rw [List.length_drop, hok.len, ← hBt] at this
        have h2 : 2 ^ (0 + (8 - (j + 1))) ≤ 2 ^ 8 := Nat.pow_le_pow_right (by omega) (by omega)
        omega
      rw [← hBt]
      have hBI : (Bt : Int) < 256 := by omega
      have hBJ : 0 ≤ (Bt : Int) := by omega
      have hdrop : v.ms.drop j = m :: v.ms.drop (j + 1) := by
        obtain ⟨h1, h2⟩ := List.getElem?_eq_some_iff.1 hm2
        rw [List.drop_eq_getElem_cons h1, h2]
      have hmk := may_mem (unhide HMAY) hok.len (n := (j : Int)) (by omega) (by omega)
      have hmd : v.mem (j : Int) = m := by unfold Vw.mem; rw [Int.toNat_natCast, List.getD_eq_getElem?_getD, hm2]; rfl
      rw [hmd] at hmk
      have HME : Hid (0 ≤ m.2 ∧ m.2 ≤ 9223372036854775807) := by
        unfold memOk isEp at hmk
        split at hmk <;> simp at hmk <;> constructor <;> omega
      obtain ⟨x0, x1⟩ := vwC_at hm2
      rw [Nat.mul_comm] at x0 x1
      have hc0 := fits_cell ((unhide M).at 0 _ rfl) _ _ x0
      have hc1 := fits_cell ((unhide M).at 0 _ rfl) _ _ x1
      clear x0 x1 hmk hmd hm2
      have hme := m.2
      clear hme
      obtain ⟨mi, me⟩ := m
      have HSQ : Hid ((rsec 1 (v.fd % 256) 0 (zs 8) (4 * (j + 1)) (v.ms.drop (j + 1))) = ([193, 1, v.fd % 256, 0] ++ zs 8 ++ zs (4 * j)) ++ zs 4 ++ (epB (v.ms.drop (j + 1)) ++ zs 20)) := rsec_cut _ _ _ _ j _
      have HSN : Hid (([193, 1, v.fd % 256, 0] ++ zs 8 ++ zs (4 * j)) ++ be 4 me ++ (epB (v.ms.drop (j + 1)) ++ zs 20) = rsec 1 (v.fd % 256) 0 (zs 8) (4 * j) (v.ms.drop j)) := by
        show _ = _
        rw [hdrop]
        exact rsec_next _ _ _ _ j (mi, me) _
      cases mi with
      | false =>
        have hbit : bitF 0 (v.ms.drop j) = 2 * Bt := by rw [hdrop, bitF, bitF_up, ← hBt]; simp
        have HBIT := hide hbit
        clear hbit hdrop hBt
        go_wp2_with fail
        clear hc0 hc1
        go_loopw [6, 7] (fun xe xi wr => ∃ (k : Nat) (q : Int) (tl : List Int), k ≤ 4 ∧ xe = .int .i64 q ∧ xi = .int .i64 ((k : Int) - 1) ∧ Hid (0 ≤ q ∧ q ≤ 9223372036854775807) ∧ Hid (be 4 me = be k q ++ tl) ∧ Hid (Mm w wr [(b1, 26, vwC v), (b2, 28, u8s (zs 64)), (b3, 28, u8s (([193, 1, v.fd % 256, 0] ++ zs 8 ++ zs (4 * j)) ++ ((zs 4).take k ++ tl) ++ (epB (v.ms.drop (j + 1)) ++ zs 20)))])) (fun _ i _ => (intOf i + 1).toNat)
        case atStart => exact ⟨4, me, [], by omega, rfl, rfl, HME, by show _ = _; simp, by have h9 := unhide M; rw [unhide HSQ] at h9; exact h9⟩
        case round =>
          clear M
          obtain ⟨k, q, tl, hk, rfl, rfl, HQ, HE, M⟩ := hrel
          cases k with
          | zero =>
            have hd : decide (0 ≤ ((0 : Nat) : Int) - 1) = false := by decide
            have h9 := unhide M
            have h8 := unhide HE
            rw [be, List.nil_append] at h8
            rw [List.take_zero, List.nil_append, ← h8, unhide HSN] at h9
            replace M := hide h9
            clear h8 h9
            go_wp2_with fail
            go_roundw
            case rel => exact ⟨j, by omega, by rw [unhide HBIT]; go_num, rfl, M⟩
            case measure => simp [intOf]
          | succ k =>
            have e1 : ((k + 1 : Nat) : Int) - 1 = (k : Int) := by omega
            rw [e1]
            clear e1
            have hk4 : (k : Int) < 4 := by omega
            have h9 := unhide M
            rw [show ([193, 1, v.fd % 256, 0] ++ zs 8 ++ zs (4 * j)) ++ ((zs 4).take (k + 1) ++ tl) ++ (epB (v.ms.drop (j + 1)) ++ zs 20) = ([193, 1, v.fd % 256, 0] ++ zs 8 ++ zs (4 * j)) ++ (zs 4).take k ++ 0 :: (tl ++ (epB (v.ms.drop (j + 1)) ++ zs 20)) by rw [take_zs k 4 (by omega)]; simp] at h9
            replace M := hide h9
            have HAL : Hid ((([193, 1, v.fd % 256, 0] ++ zs 8 ++ zs (4 * j)) ++ (zs 4).take k).length = 12 + 4 * j + k) := by show _ = _; simp [zs]; omega
            have HLT : Hid (12 + 4 * j + k < (u8s (([193, 1, v.fd % 256, 0] ++ zs 8 ++ zs (4 * j)) ++ (zs 4).take k ++ 0 :: (tl ++ (epB (v.ms.drop (j + 1)) ++ zs 20)))).length) := by
              show _ < _
              rw [u8s_len, List.length_append, unhide HAL]; simp
            obtain ⟨q1, q2⟩ := unhide HQ
            have HQ2 : Hid (0 ≤ q / 256 ∧ q / 256 ≤ 9223372036854775807) := by constructor <;> omega
            have HE2 : Hid (be 4 me = be k (q / 256) ++ (q % 256 :: tl)) := by show _ = _; rw [unhide HE, be]; simp
            clear h9 HE
            go_wp2_with (
              first
              | (refine wpRem256 rfl (.tmp 49) rfl q (unhide HQ) rfl ?_
                 refine Stp.go ?_))
            constructor
            go_wp2_with (
              first
              | (refine wpStoreMT size5 rfl (.tmp 52) (.tmp 51) rfl rfl b3 (12 + 4 * j + k) 2 (.int .u8 (q % 256)) ⟨rfl, rfl⟩ rfl (by first | rfl | (show Value.int _ _ = _; congr 1; omega)) (unhide M) (u8s (([193, 1, v.fd % 256, 0] ++ zs 8 ++ zs (4 * j)) ++ (zs 4).take k ++ (q % 256) :: (tl ++ (epB (v.ms.drop (j + 1)) ++ zs 20)))) rfl (unhide HLT) (set_in _ _ _ _ _ (unhide HAL)) ?_
                 intro W61 N61
                 replace M : Hid (Mm w W61 [(b1, 26, vwC v), (b2, 28, u8s (zs 64)), (b3, 28, u8s (([193, 1, v.fd % 256, 0] ++ zs 8 ++ zs (4 * j)) ++ (zs 4).take k ++ (q % 256) :: (tl ++ (epB (v.ms.drop (j + 1)) ++ zs 20))))]) := hide N61
                 clear N61
                 refine Stp.go ?_))
            constructor
            go_wp2_with (
              first
              | (refine wpQuo256 rfl (.tmp 53) rfl q (unhide HQ) rfl ?_
                 refine Stp.go ?_))
            constructor
            go_wp2_with fail
            go_roundw
            case rel => exact ⟨k, q / 256, q % 256 :: tl, by omega, rfl, rfl, HQ2, HE2, by have h9 := unhide M; rw [show ([193, 1, v.fd % 256, 0] ++ zs 8 ++ zs (4 * j)) ++ (zs 4).take k ++ (q % 256) :: (tl ++ (epB (v.ms.drop (j + 1)) ++ zs 20)) = ([193, 1, v.fd % 256, 0] ++ zs 8 ++ zs (4 * j)) ++ ((zs 4).take k ++ (q % 256 :: tl)) ++ (epB (v.ms.drop (j + 1)) ++ zs 20) by simp] at h9; exact h9⟩
            case measure => simp [intOf]
      | true =>
        have hbit : bitF 0 (v.ms.drop j) = 2 * Bt + 1 := by rw [hdrop, bitF, bitF_up, ← hBt]; simp; omega
        have HBIT := hide hbit
        clear hbit hdrop hBt
        go_wp2_with fail
        clear hc0 hc1
        go_loopw [6, 7] (fun xe xi wr => ∃ (k : Nat) (q : Int) (tl : List Int), k ≤ 4 ∧ xe = .int .i64 q ∧ xi = .int .i64 ((k : Int) - 1) ∧ Hid (0 ≤ q ∧ q ≤ 9223372036854775807) ∧ Hid (be 4 me = be k q ++ tl) ∧ Hid (Mm w wr [(b1, 26, vwC v), (b2, 28, u8s (zs 64)), (b3, 28, u8s (([193, 1, v.fd % 256, 0] ++ zs 8 ++ zs (4 * j)) ++ ((zs 4).take k ++ tl) ++ (epB (v.ms.drop (j + 1)) ++ zs 20)))])) (fun _ i _ => (intOf i + 1).toNat)
        case atStart => exact ⟨4, me, [], by omega, rfl, rfl, HME, by show _ = _; simp, by have h9 := unhide M; rw [unhide HSQ] at h9; exact h9⟩
        case round =>
          clear M
          obtain ⟨k, q, tl, hk, rfl, rfl, HQ, HE, M⟩ := hrel
          cases k with
          | zero =>
            have hd : decide (0 ≤ ((0 : Nat) : Int) - 1) = false := by decide
            have h9 := unhide M
            have h8 := unhide HE
            rw [be, List.nil_append] at h8
            rw [List.take_zero, List.nil_append, ← h8, unhide HSN] at h9
            replace M := hide h9
            clear h8 h9
            go_wp2_with fail
            go_roundw
            case rel => exact ⟨j, by omega, by rw [unhide HBIT]; go_num, rfl, M⟩
            case measure => simp [intOf]
          | succ k =>
            have e1 : ((k + 1 : Nat) : Int) - 1 = (k : Int) := by omega
            rw [e1]
            clear e1
            have hk4 : (k : Int) < 4 := by omega
            have h9 := unhide M
            rw [show ([193, 1, v.fd % 256, 0] ++ zs 8 ++ zs (4 * j)) ++ ((zs 4).take (k + 1) ++ tl) ++ (epB (v.ms.drop (j + 1)) ++ zs 20) = ([193, 1, v.fd % 256, 0] ++ zs 8 ++ zs (4 * j)) ++ (zs 4).take k ++ 0 :: (tl ++ (epB (v.ms.drop (j + 1)) ++ zs 20)) by rw [take_zs k 4 (by omega)]; simp] at h9
            replace M := hide h9
            have HAL : Hid ((([193, 1, v.fd % 256, 0] ++ zs 8 ++ zs (4 * j)) ++ (zs 4).take k).length = 12 + 4 * j + k) := by show _ = _; simp [zs]; omega
            have HLT : Hid (12 + 4 * j + k < (u8s (([193, 1, v.fd % 256, 0] ++ zs 8 ++ zs (4 * j)) ++ (zs 4).take k ++ 0 :: (tl ++ (epB (v.ms.drop (j + 1)) ++ zs 20)))).length) := by
              show _ < _
              rw [u8s_len, List.length_append, unhide HAL]; simp
            obtain ⟨q1, q2⟩ := unhide HQ
            have HQ2 : Hid (0 ≤ q / 256 ∧ q / 256 ≤ 9223372036854775807) := by constructor <;> omega
            have HE2 : Hid (be 4 me = be k (q / 256) ++ (q % 256 :: tl)) := by show _ = _; rw [unhide HE, be]; simp
            clear h9 HE
            go_wp2_with (
              first
              | (refine wpRem256 rfl (.tmp 49) rfl q (unhide HQ) rfl ?_
                 refine Stp.go ?_))
            constructor
            go_wp2_with (
              first
              | (refine wpStoreMT size5 rfl (.tmp 52) (.tmp 51) rfl rfl b3 (12 + 4 * j + k) 2 (.int .u8 (q % 256)) ⟨rfl, rfl⟩ rfl (by first | rfl | (show Value.int _ _ = _; congr 1; omega)) (unhide M) (u8s (([193, 1, v.fd % 256, 0] ++ zs 8 ++ zs (4 * j)) ++ (zs 4).take k ++ (q % 256) :: (tl ++ (epB (v.ms.drop (j + 1)) ++ zs 20)))) rfl (unhide HLT) (set_in _ _ _ _ _ (unhide HAL)) ?_
                 intro W61 N61
                 replace M : Hid (Mm w W61 [(b1, 26, vwC v), (b2, 28, u8s (zs 64)), (b3, 28, u8s (([193, 1, v.fd % 256, 0] ++ zs 8 ++ zs (4 * j)) ++ (zs 4).take k ++ (q % 256) :: (tl ++ (epB (v.ms.drop (j + 1)) ++ zs 20))))]) := hide N61
                 clear N61
                 refine Stp.go ?_))
            constructor
            go_wp2_with (
              first
              | (refine wpQuo256 rfl (.tmp 53) rfl q (unhide HQ) rfl ?_
                 refine Stp.go ?_))
            constructor
            go_wp2_with fail
            go_roundw
            case rel => exact ⟨k, q / 256, q % 256 :: tl, by omega, rfl, rfl, HQ2, HE2, by have h9 := unhide M; rw [show ([193, 1, v.fd % 256, 0] ++ zs 8 ++ zs (4 * j)) ++ (zs 4).take k ++ (q % 256) :: (tl ++ (epB (v.ms.drop (j + 1)) ++ zs 20)) = ([193, 1, v.fd % 256, 0] ++ zs 8 ++ zs (4 * j)) ++ ((zs 4).take k ++ (q % 256 :: tl)) ++ (epB (v.ms.drop (j + 1)) ++ zs 20) by simp] at h9; exact h9⟩
            case measure => simp [intOf]
    | zero =>
      have hd : decide (0 ≤ ((0 : Nat) : Int) - 1) = false := by decide
      have h9 := unhide M
      rw [show rsec 1 (v.fd % 256) 0 (zs 8) (4 * 0) (v.ms.drop 0) = [193, 1, v.fd % 256] ++ 0 :: (zs 8 ++ epB v.ms ++ zs 20) by unfold rsec; simp [zs]] at h9
      replace M := hide h9
      clear h9
      rw [List.drop_zero]
      obtain ⟨bt, hbt⟩ : ∃ bt, bt = bitF 0 v.ms := ⟨_, rfl⟩
      have hbl : (bt : Int) < 256 := by have := unhide HBL; omega
      have hbl0 : 0 ≤ (bt : Int) := by omega
      go_wp2_with (
        first
        | (refine wpStoreMT size5 rfl (.tmp 57) (.tmp 56) rfl rfl b3 3 2 (.int .u8 ((bitF 0 v.ms : Nat) : Int)) ⟨rfl, rfl⟩ rfl (by first | rfl | (show Value.int _ _ = _; congr 1; have := unhide HBL; omega)) (unhide M) (u8s ([193, 1, v.fd % 256] ++ ((bitF 0 v.ms : Nat) : Int) :: (zs 8 ++ epB v.ms ++ zs 20))) rfl (by rw [u8s_len]; simp) (set_in _ _ _ _ _ rfl) ?_
           intro W71 N71
           replace M : Hid (Mm w W71 [(b1, 26, vwC v), (b2, 28, u8s (zs 64)), (b3, 28, u8s ([193, 1, v.fd % 256] ++ ((bitF 0 v.ms : Nat) : Int) :: (zs 8 ++ epB v.ms ++ zs 20)))]) := hide N71
           clear N71
           have c0 := fits_cell ((unhide M).at 0 _ rfl) 0 _ rfl
           refine Stp.go ?_))
      constructor
      go_wp2_with fail
      clear c0
      go_loopw [8, 9] (fun xe xi wr => ∃ (k : Nat) (q : Int) (tl : List Int), k ≤ 8 ∧ xe = .int .i64 q ∧ xi = .int .i64 ((k : Int) + 3) ∧ Hid (0 ≤ q ∧ q ≤ 9223372036854775807) ∧ Hid (be 8 v.nu = be k q ++ tl) ∧ Hid (Mm w wr [(b1, 26, vwC v), (b2, 28, u8s (zs 64)), (b3, 28, u8s ([193, 1, v.fd % 256, ((bitF 0 v.ms : Nat) : Int)] ++ ((zs 8).take k ++ tl) ++ (epB v.ms ++ zs 20)))])) (fun _ i _ => (intOf i).toNat)
      case atStart => exact ⟨8, v.nu, [], by omega, rfl, rfl, HNU, by show _ = _; simp, by have h9 := unhide M; rw [show [193, 1, v.fd % 256] ++ ((bitF 0 v.ms : Nat) : Int) :: (zs 8 ++ epB v.ms ++ zs 20) = [193, 1, v.fd % 256, ((bitF 0 v.ms : Nat) : Int)] ++ ((zs 8).take 8 ++ []) ++ (epB v.ms ++ zs 20) by simp [zs]] at h9; exact h9⟩
      case round =>
        clear M
        obtain ⟨k, q, tl, hk, rfl, rfl, HQ, HE, M⟩ := hrel
        cases k with
        | zero =>
          have hd : decide (4 ≤ ((0 : Nat) : Int) + 3) = false := by decide
          have h9 := unhide M
          have h8 := unhide HE
          rw [be, List.nil_append] at h8
          rw [List.take_zero, List.nil_append, ← h8] at h9
          have hS : [193, 1, v.fd % 256, ((bitF 0 v.ms : Nat) : Int)] ++ be 8 v.nu ++ (epB v.ms ++ zs 20) = (secL 1 (v.fd % 256) ((bitF 0 v.ms : Nat) : Int) v.nu v.ms 20) := by unfold secL; simp
          rw [hS] at h9
          replace M := hide h9
          clear h8 h9 hS
          go_wp2_with (
            first
            | (refine wpLoadA row28 rfl (.tmp 3) rfl b3 0 rfl (u8s (secL 1 (v.fd % 256) ((bitF 0 v.ms : Nat) : Int) v.nu v.ms 20)) (unhide HL20) ((unhide M).at 2 _ rfl).range ?_
               refine Stp.go ?_))
          constructor
          go_wp2_with (
            first
            | (refine wpStoreM row28 rfl (.tmp 2) (.tmp 71) rfl rfl b2 1 (u8s (secL 1 (v.fd % 256) ((bitF 0 v.ms : Nat) : Int) v.nu v.ms 20)) rfl rfl (unhide HL20) (u8s_one _) (unhide M) rfl (zl 64) ?_
               intro W91 N91
               replace M : Hid (Mm w W91 [(b1, 26, vwC v), (b2, 28, u8s (secL 1 (v.fd % 256) ((bitF 0 v.ms : Nat) : Int) v.nu v.ms 20)), (b3, 28, u8s (secL 1 (v.fd % 256) ((bitF 0 v.ms : Nat) : Int) v.nu v.ms 20))]) := hide N91
               clear N91
               refine Stp.go ?_))
          constructor
          go_wp2_with fail
          refine bodyPost_ret (res15 _ b2 (u8s (secL 1 (v.fd % 256) ((bitF 0 v.ms : Nat) : Int) v.nu v.ms 20)) _ rfl (unhide HL20) ((unhide M).at 1 _ rfl)) rfl ?_
          exact ⟨rfl, (unhide M).kept⟩
        | succ k =>
          have e1 : ((k + 1 : Nat) : Int) + 3 = ((k + 4 : Nat) : Int) := by omega
          rw [e1]
          clear e1
          have hk8 : ((k + 4 : Nat) : Int) < 12 := by omega
          have hd : decide (4 ≤ ((k + 4 : Nat) : Int)) = true := by simp; omega
          have h9 := unhide M
          rw [show [193, 1, v.fd % 256, ((bitF 0 v.ms : Nat) : Int)] ++ ((zs 8).take (k + 1) ++ tl) ++ (epB v.ms ++ zs 20) = [193, 1, v.fd % 256, ((bitF 0 v.ms : Nat) : Int)] ++ (zs 8).take k ++ 0 :: (tl ++ (epB v.ms ++ zs 20)) by rw [take_zs k 8 (by omega)]; simp] at h9
          replace M := hide h9
          have HAL : Hid (([193, 1, v.fd % 256, ((bitF 0 v.ms : Nat) : Int)] ++ (zs 8).take k).length = k + 4) := by show _ = _; simp [zs]; omega
          have HLT : Hid (k + 4 < (u8s ([193, 1, v.fd % 256, ((bitF 0 v.ms : Nat) : Int)] ++ (zs 8).take k ++ 0 :: (tl ++ (epB v.ms ++ zs 20)))).length) := by
            show _ < _
            rw [u8s_len, List.length_append, unhide HAL]; simp
          obtain ⟨q1, q2⟩ := unhide HQ
          have HQ2 : Hid (0 ≤ q / 256 ∧ q / 256 ≤ 9223372036854775807) := by constructor <;> omega
          have HE2 : Hid (be 8 v.nu = be k (q / 256) ++ (q % 256 :: tl)) := by show _ = _; rw [unhide HE, be]; simp
          clear h9 HE
          go_wp2_with (
            first
            | (refine wpRem256 rfl (.tmp 65) rfl q (unhide HQ) rfl ?_
               refine Stp.go ?_))
          constructor
          go_wp2_with (
            first
            | (refine wpStoreMT size5 rfl (.tmp 68) (.tmp 67) rfl rfl b3 (k + 4) 2 (.int .u8 (q % 256)) ⟨rfl, rfl⟩ rfl (by first | rfl | (show Value.int _ _ = _; congr 1; omega)) (unhide M) (u8s ([193, 1, v.fd % 256, ((bitF 0 v.ms : Nat) : Int)] ++ (zs 8).take k ++ (q % 256) :: (tl ++ (epB v.ms ++ zs 20)))) rfl (unhide HLT) (set_in _ _ _ _ _ (unhide HAL)) ?_
               intro W81 N81
               replace M : Hid (Mm w W81 [(b1, 26, vwC v), (b2, 28, u8s (zs 64)), (b3, 28, u8s ([193, 1, v.fd % 256, ((bitF 0 v.ms : Nat) : Int)] ++ (zs 8).take k ++ (q % 256) :: (tl ++ (epB v.ms ++ zs 20))))]) := hide N81
               clear N81
               refine Stp.go ?_))
          constructor
          go_wp2_with (
            first
            | (refine wpQuo256 rfl (.tmp 69) rfl q (unhide HQ) rfl ?_
               refine Stp.go ?_))
          constructor
          go_wp2_with fail
          go_roundw
          case rel => exact ⟨k, q / 256, q % 256 :: tl, by omega, rfl, by go_num, HQ2, HE2, by have h9 := unhide M; rw [show [193, 1, v.fd % 256, ((bitF 0 v.ms : Nat) : Int)] ++ (zs 8).take k ++ (q % 256) :: (tl ++ (epB v.ms ++ zs 20)) = [193, 1, v.fd % 256, ((bitF 0 v.ms : Nat) : Int)] ++ ((zs 8).take k ++ (q % 256 :: tl)) ++ (epB v.ms ++ zs 20) by simp] at h9; exact h9⟩
          case measure => simp [intOf]; omega
set_option maxHeartbeats 16000000 in
theorem rput_false (v : Vw) (w : World) (hF : First w) (hok : v.Ok) (hm : v.may = true) (hq : decide (v = fv) = false) (hop : v.op = false) : Calls Tryd.prog 15 #[aggV (vwC v)] w fun e w' => e = .returned (aggV (u8s (secL 0 (v.fd % 256) ((bitF 0 v.ms : Nat) : Int) v.nu v.ms 20))) ∧ Kept [] w w' := by
  have HNU : Hid (0 ≤ v.nu ∧ v.nu ≤ 9223372036854775807) := by have := may_nu hm; constructor <;> omega
  have HMAY := hide hm
  have HBL : Hid (bitF 0 v.ms < 256) := by
    have := bitF_lt v.ms 0
    rw [hok.len] at this
    show _ < _
    simp at this
    omega
  have HL20 : Hid ((u8s (secL 0 (v.fd % 256) ((bitF 0 v.ms : Nat) : Int) v.nu v.ms 20)).length = 64) := by show _ = _; rw [u8s_len, secL_len, hok.len]
  go_enter Tryd.func15, Tryd.ntmps15
  have M : Hid (Mm w w []) := hide (Mm.init hF)
  go_wp2_with (
    first
    | (refine wpBoxV rfl (.tmp 0) rfl (vwC v) rfl ?_
       intro W1 b1 e1 B1 K1
       replace M : Hid (Mm w W1 [(b1, 26, vwC v)]) := hide ((unhide M).new e1 B1 K1)
       clear e1 B1 K1
       refine Stp.go ?_))
  constructor
  go_wp2_with (
    first
    | (refine wpAllocW (u8s (zs 64)) zero28 2 rfl rfl rfl ?_
       intro W2 b2 e2 B2 K2
       replace M : Hid (Mm w W2 [(b1, 26, vwC v), (b2, 28, u8s (zs 64))]) := hide ((unhide M).new e2 B2 K2)
       clear e2 B2 K2
       refine Stp.go ?_))
  constructor
  go_wp2_with (
    first
    | (refine wpAllocW (u8s (zs 64)) zero28 3 rfl rfl rfl ?_
       intro W3 b3 e3 B3 K3
       replace M : Hid (Mm w W3 [(b1, 26, vwC v), (b2, 28, u8s (zs 64)), (b3, 28, u8s (zs 64))]) := hide ((unhide M).new e3 B3 K3)
       clear e3 B3 K3
       refine Stp.go ?_))
  constructor
  go_wp2_with fail
  refine wp_region_any mixed (wpAny_tq 3 rfl (by kernel_rfl) [some (aggV (vwC v)), some (aggV (vwC fv)), some (.bool false)] rfl (by kernel_rfl) (by kernel_rfl) ?_ ?_)
  · intro i o' hi hsk ho a' w2 hout hin hk2
    replace hk2 : Kept [] W3 w2 := ⟨hk2.os, hk2.tape, hk2.output, hk2.size, hk2.block⟩
    match i, ho, hsk with
    | 0, ho, hsk =>
      obtain rfl := Option.some.inj ho
      exact wp_loadA row26 (.tmp 1) rfl b1 0 ((hout 1 (by kernel_rfl)).trans rfl) (vwC v) (vwC_len hok.len) (((unhide M).step hk2).at 0 _ rfl).range ⟨_, rfl, tq_is _ _ _ _ rfl, Kept.refl _ _, fun _ _ _ _ _ => trivial⟩
    | 1, ho, hsk =>
      obtain rfl := Option.some.inj ho
      refine wp_callF 31 _ _ rfl #[] (by simp) (cg31 _ _) ((first31 _).mono ?_)
      rintro e w3 ⟨rfl, hk3⟩
      exact ⟨_, rfl, _, rfl, tq_is _ _ _ _ rfl, hk3, fun _ _ _ _ _ => trivial⟩
    | 2, ho, hsk =>
      obtain rfl := Option.some.inj ho
      have e0 : a'.eval (.tmp 10) = aggV (vwC v) := is_tq (hin 0 10 (by kernel_rfl) (by kernel_rfl)) rfl
      have e1 : a'.eval (.tmp 11) = aggV (vwC fv) := is_tq (hin 1 11 (by kernel_rfl) (by kernel_rfl)) rfl
      exact o_eqlA 26 26 guard26 (.tmp 10) (.tmp 11) rfl (vwC v) (vwC fv) e0 e1 false ((equal26 _ v fv hok.len rfl).trans (by rw [hq])) ⟨_, rfl, tq_is _ _ _ _ rfl, Kept.refl _ _, fun _ _ _ _ _ => trivial⟩
  intro w9 hk9
  replace hk9 : Kept [] W3 w9 := ⟨hk9.os, hk9.tape, hk9.output, hk9.size, hk9.block⟩
  simp only [valsQ, List.map_cons, List.map_nil, Option.getD_some, List.take_succ_cons, List.take_zero, putAll, Act.put, List.setIfInBounds_toArray, List.set_cons_succ, List.set_cons_zero]
  refine wpAny_done (by kernel_rfl) ?_ _
  replace M : Hid (Mm w w9 [(b1, 26, vwC v), (b2, 28, u8s (zs 64)), (b3, 28, u8s (zs 64))]) := hide ((unhide M).step hk9)
  clear hk9
  go_wp2_with (
    first
    | (refine wpStoreM1 size5 rfl (.tmp 14) (.const (.int .u8 193)) rfl rfl b3 0 2 (.int .u8 193) ⟨rfl, rfl⟩ rfl rfl (unhide M) rfl (by simp [u8s, zs]) ?_
       intro W21 N21
       replace M : Hid (Mm w W21 [(b1, 26, vwC v), (b2, 28, u8s (zs 64)), (b3, 28, u8s ([193, 0, 0, 0] ++ zs 60))]) := hide N21
       clear N21
       have c1 : W21.cell? ⟨b1, 1, none⟩ = some (.bool false) := by rw [← hop]; exact fits_cell ((unhide M).at 0 _ rfl) 1 _ rfl
       have c2 := fits_cell ((unhide M).at 0 _ rfl) 2 _ rfl
       refine Stp.go ?_))
  constructor
  go_wp2_with (
    first
    | (refine wpStoreM1 size5 rfl (.tmp 21) (.tmp 20) rfl rfl b3 2 2 (.int .u8 (v.fd % 256)) ⟨rfl, rfl⟩ rfl rfl (unhide M) rfl (by simp [u8s, zs]) ?_
       intro W22 N22
       replace M : Hid (Mm w W22 [(b1, 26, vwC v), (b2, 28, u8s (zs 64)), (b3, 28, u8s ([193, 0, v.fd % 256, 0] ++ zs 60))]) := hide N22
       clear N22
       clear c2
       refine Stp.go ?_))
  constructor
  go_wp2_with fail
  go_loopw [4, 5] (fun xb xn wr => ∃ j : Nat, j ≤ 8 ∧ xb = .int .i64 ((bitF 0 (v.ms.drop j) : Nat) : Int) ∧ xn = .int .i64 ((j : Int) - 1) ∧ Hid (Mm w wr [(b1, 26, vwC v), (b2, 28, u8s (zs 64)), (b3, 28, u8s (rsec 0 (v.fd % 256) 0 (zs 8) (4 * j) (v.ms.drop j)))])) (fun _ i _ => (intOf i + 1).toNat)
  case atStart => exact ⟨8, by omega, by rw [List.drop_of_length_le (by rw [hok.len]; exact Nat.le_refl _)]; rfl, rfl, by rw [List.drop_of_length_le (by rw [hok.len]; exact Nat.le_refl _)]; exact M⟩
  case round =>
    clear M
    obtain ⟨j, hj, rfl, rfl, M⟩ := hrel
    cases j with
    | succ j =>
      have e1 : ((j + 1 : Nat) : Int) - 1 = (j : Int) := by omega
      rw [e1]
      clear e1
      obtain ⟨m, hm2⟩ : ∃ m, v.ms[j]? = some m := ⟨_, List.getElem?_eq_getElem (by rw [hok.len]; omega)⟩
      have hj8 : (j : Int) < 8 := by omega
      obtain ⟨Bt, hBt⟩ : ∃ Bt, Bt = bitF 0 (v.ms.drop (j + 1)) := ⟨_, rfl⟩
      have hBb : Bt < 256 := by
        have := bitF_lt (v.ms.drop (j + 1)) 0
        rw [List.length_drop, hok.len, ← hBt] at this
        have h2 : 2 ^ (0 + (8 - (j + 1))) ≤ 2 ^ 8 := Nat.pow_le_pow_right (by omega) (by omega)
        omega
      rw [← hBt]
      have hBI : (Bt : Int) < 256 := by omega
      have hBJ : 0 ≤ (Bt : Int) := by omega
      have hdrop : v.ms.drop j = m :: v.ms.drop (j + 1) := by
        obtain ⟨h1, h2⟩ := List.getElem?_eq_some_iff.1 hm2
        rw [List.drop_eq_getElem_cons h1, h2]
      have hmk := may_mem (unhide HMAY) hok.len (n := (j : Int)) (by omega) (by omega)
      have hmd : v.mem (j : Int) = m := by unfold Vw.mem; rw [Int.toNat_natCast, List.getD_eq_getElem?_getD, hm2]; rfl
      rw [hmd] at hmk
      have HME : Hid (0 ≤ m.2 ∧ m.2 ≤ 9223372036854775807) := by
        unfold memOk isEp at hmk
        split at hmk <;> simp at hmk <;> constructor <;> omega
      obtain ⟨x0, x1⟩ := vwC_at hm2
      rw [Nat.mul_comm] at x0 x1
      have hc0 := fits_cell ((unhide M).at 0 _ rfl) _ _ x0
      have hc1 := fits_cell ((unhide M).at 0 _ rfl) _ _ x1
      clear x0 x1 hmk hmd hm2
      have hme := m.2
      clear hme
      obtain ⟨mi, me⟩ := m
      have HSQ : Hid ((rsec 0 (v.fd % 256) 0 (zs 8) (4 * (j + 1)) (v.ms.drop (j + 1))) = ([193, 0, v.fd % 256, 0] ++ zs 8 ++ zs (4 * j)) ++ zs 4 ++ (epB (v.ms.drop (j + 1)) ++ zs 20)) := rsec_cut _ _ _ _ j _
      have HSN : Hid (([193, 0, v.fd % 256, 0] ++ zs 8 ++ zs (4 * j)) ++ be 4 me ++ (epB (v.ms.drop (j + 1)) ++ zs 20) = rsec 0 (v.fd % 256) 0 (zs 8) (4 * j) (v.ms.drop j)) := by
        show _ = _
        rw [hdrop]
        exact rsec_next _ _ _ _ j (mi, me) _
      cases mi with
      | false =>
        have hbit : bitF 0 (v.ms.drop j) = 2 * Bt := by rw [hdrop, bitF, bitF_up, ← hBt]; simp
        have HBIT := hide hbit
        clear hbit hdrop hBt
        go_wp2_with fail
        clear hc0 hc1
        go_loopw [6, 7] (fun xe xi wr => ∃ (k : Nat) (q : Int) (tl : List Int), k ≤ 4 ∧ xe = .int .i64 q ∧ xi = .int .i64 ((k : Int) - 1) ∧ Hid (0 ≤ q ∧ q ≤ 9223372036854775807) ∧ Hid (be 4 me = be k q ++ tl) ∧ Hid (Mm w wr [(b1, 26, vwC v), (b2, 28, u8s (zs 64)), (b3, 28, u8s (([193, 0, v.fd % 256, 0] ++ zs 8 ++ zs (4 * j)) ++ ((zs 4).take k ++ tl) ++ (epB (v.ms.drop (j + 1)) ++ zs 20)))])) (fun _ i _ => (intOf i + 1).toNat)
        case atStart => exact ⟨4, me, [], by omega, rfl, rfl, HME, by show _ = _; simp, by have h9 := unhide M; rw [unhide HSQ] at h9; exact h9⟩
        case round =>
          clear M
          obtain ⟨k, q, tl, hk, rfl, rfl, HQ, HE, M⟩ := hrel
          cases k with
          | zero =>
            have hd : decide (0 ≤ ((0 : Nat) : Int) - 1) = false := by decide
            have h9 := unhide M
            have h8 := unhide HE
            rw [be, List.nil_append] at h8
            rw [List.take_zero, List.nil_append, ← h8, unhide HSN] at h9
            replace M := hide h9
            clear h8 h9
            go_wp2_with fail
            go_roundw
            case rel => exact ⟨j, by omega, by rw [unhide HBIT]; go_num, rfl, M⟩
            case measure => simp [intOf]
          | succ k =>
            have e1 : ((k + 1 : Nat) : Int) - 1 = (k : Int) := by omega
            rw [e1]
            clear e1
            have hk4 : (k : Int) < 4 := by omega
            have h9 := unhide M
            rw [show ([193, 0, v.fd % 256, 0] ++ zs 8 ++ zs (4 * j)) ++ ((zs 4).take (k + 1) ++ tl) ++ (epB (v.ms.drop (j + 1)) ++ zs 20) = ([193, 0, v.fd % 256, 0] ++ zs 8 ++ zs (4 * j)) ++ (zs 4).take k ++ 0 :: (tl ++ (epB (v.ms.drop (j + 1)) ++ zs 20)) by rw [take_zs k 4 (by omega)]; simp] at h9
            replace M := hide h9
            have HAL : Hid ((([193, 0, v.fd % 256, 0] ++ zs 8 ++ zs (4 * j)) ++ (zs 4).take k).length = 12 + 4 * j + k) := by show _ = _; simp [zs]; omega
            have HLT : Hid (12 + 4 * j + k < (u8s (([193, 0, v.fd % 256, 0] ++ zs 8 ++ zs (4 * j)) ++ (zs 4).take k ++ 0 :: (tl ++ (epB (v.ms.drop (j + 1)) ++ zs 20)))).length) := by
              show _ < _
              rw [u8s_len, List.length_append, unhide HAL]; simp
            obtain ⟨q1, q2⟩ := unhide HQ
            have HQ2 : Hid (0 ≤ q / 256 ∧ q / 256 ≤ 9223372036854775807) := by constructor <;> omega
            have HE2 : Hid (be 4 me = be k (q / 256) ++ (q % 256 :: tl)) := by show _ = _; rw [unhide HE, be]; simp
            clear h9 HE
            go_wp2_with (
              first
              | (refine wpRem256 rfl (.tmp 49) rfl q (unhide HQ) rfl ?_
                 refine Stp.go ?_))
            constructor
            go_wp2_with (
              first
              | (refine wpStoreMT size5 rfl (.tmp 52) (.tmp 51) rfl rfl b3 (12 + 4 * j + k) 2 (.int .u8 (q % 256)) ⟨rfl, rfl⟩ rfl (by first | rfl | (show Value.int _ _ = _; congr 1; omega)) (unhide M) (u8s (([193, 0, v.fd % 256, 0] ++ zs 8 ++ zs (4 * j)) ++ (zs 4).take k ++ (q % 256) :: (tl ++ (epB (v.ms.drop (j + 1)) ++ zs 20)))) rfl (unhide HLT) (set_in _ _ _ _ _ (unhide HAL)) ?_
                 intro W61 N61
                 replace M : Hid (Mm w W61 [(b1, 26, vwC v), (b2, 28, u8s (zs 64)), (b3, 28, u8s (([193, 0, v.fd % 256, 0] ++ zs 8 ++ zs (4 * j)) ++ (zs 4).take k ++ (q % 256) :: (tl ++ (epB (v.ms.drop (j + 1)) ++ zs 20))))]) := hide N61
                 clear N61
                 refine Stp.go ?_))
            constructor
            go_wp2_with (
              first
              | (refine wpQuo256 rfl (.tmp 53) rfl q (unhide HQ) rfl ?_
                 refine Stp.go ?_))
            constructor
            go_wp2_with fail
            go_roundw
            case rel => exact ⟨k, q / 256, q % 256 :: tl, by omega, rfl, rfl, HQ2, HE2, by have h9 := unhide M; rw [show ([193, 0, v.fd % 256, 0] ++ zs 8 ++ zs (4 * j)) ++ (zs 4).take k ++ (q % 256) :: (tl ++ (epB (v.ms.drop (j + 1)) ++ zs 20)) = ([193, 0, v.fd % 256, 0] ++ zs 8 ++ zs (4 * j)) ++ ((zs 4).take k ++ (q % 256 :: tl)) ++ (epB (v.ms.drop (j + 1)) ++ zs 20) by simp] at h9; exact h9⟩
            case measure => simp [intOf]
      | true =>
        have hbit : bitF 0 (v.ms.drop j) = 2 * Bt + 1 := by rw [hdrop, bitF, bitF_up, ← hBt]; simp; omega
        have HBIT := hide hbit
        clear hbit hdrop hBt
        go_wp2_with fail
        clear hc0 hc1
        go_loopw [6, 7] (fun xe xi wr => ∃ (k : Nat) (q : Int) (tl : List Int), k ≤ 4 ∧ xe = .int .i64 q ∧ xi = .int .i64 ((k : Int) - 1) ∧ Hid (0 ≤ q ∧ q ≤ 9223372036854775807) ∧ Hid (be 4 me = be k q ++ tl) ∧ Hid (Mm w wr [(b1, 26, vwC v), (b2, 28, u8s (zs 64)), (b3, 28, u8s (([193, 0, v.fd % 256, 0] ++ zs 8 ++ zs (4 * j)) ++ ((zs 4).take k ++ tl) ++ (epB (v.ms.drop (j + 1)) ++ zs 20)))])) (fun _ i _ => (intOf i + 1).toNat)
        case atStart => exact ⟨4, me, [], by omega, rfl, rfl, HME, by show _ = _; simp, by have h9 := unhide M; rw [unhide HSQ] at h9; exact h9⟩
        case round =>
          clear M
          obtain ⟨k, q, tl, hk, rfl, rfl, HQ, HE, M⟩ := hrel
          cases k with
          | zero =>
            have hd : decide (0 ≤ ((0 : Nat) : Int) - 1) = false := by decide
            have h9 := unhide M
            have h8 := unhide HE
            rw [be, List.nil_append] at h8
            rw [List.take_zero, List.nil_append, ← h8, unhide HSN] at h9
            replace M := hide h9
            clear h8 h9
            go_wp2_with fail
            go_roundw
            case rel => exact ⟨j, by omega, by rw [unhide HBIT]; go_num, rfl, M⟩
            case measure => simp [intOf]
          | succ k =>
            have e1 : ((k + 1 : Nat) : Int) - 1 = (k : Int) := by omega
            rw [e1]
            clear e1
            have hk4 : (k : Int) < 4 := by omega
            have h9 := unhide M
            rw [show ([193, 0, v.fd % 256, 0] ++ zs 8 ++ zs (4 * j)) ++ ((zs 4).take (k + 1) ++ tl) ++ (epB (v.ms.drop (j + 1)) ++ zs 20) = ([193, 0, v.fd % 256, 0] ++ zs 8 ++ zs (4 * j)) ++ (zs 4).take k ++ 0 :: (tl ++ (epB (v.ms.drop (j + 1)) ++ zs 20)) by rw [take_zs k 4 (by omega)]; simp] at h9
            replace M := hide h9
            have HAL : Hid ((([193, 0, v.fd % 256, 0] ++ zs 8 ++ zs (4 * j)) ++ (zs 4).take k).length = 12 + 4 * j + k) := by show _ = _; simp [zs]; omega
            have HLT : Hid (12 + 4 * j + k < (u8s (([193, 0, v.fd % 256, 0] ++ zs 8 ++ zs (4 * j)) ++ (zs 4).take k ++ 0 :: (tl ++ (epB (v.ms.drop (j + 1)) ++ zs 20)))).length) := by
              show _ < _
              rw [u8s_len, List.length_append, unhide HAL]; simp
            obtain ⟨q1, q2⟩ := unhide HQ
            have HQ2 : Hid (0 ≤ q / 256 ∧ q / 256 ≤ 9223372036854775807) := by constructor <;> omega
            have HE2 : Hid (be 4 me = be k (q / 256) ++ (q % 256 :: tl)) := by show _ = _; rw [unhide HE, be]; simp
            clear h9 HE
            go_wp2_with (
              first
              | (refine wpRem256 rfl (.tmp 49) rfl q (unhide HQ) rfl ?_
                 refine Stp.go ?_))
            constructor
            go_wp2_with (
              first
              | (refine wpStoreMT size5 rfl (.tmp 52) (.tmp 51) rfl rfl b3 (12 + 4 * j + k) 2 (.int .u8 (q % 256)) ⟨rfl, rfl⟩ rfl (by first | rfl | (show Value.int _ _ = _; congr 1; omega)) (unhide M) (u8s (([193, 0, v.fd % 256, 0] ++ zs 8 ++ zs (4 * j)) ++ (zs 4).take k ++ (q % 256) :: (tl ++ (epB (v.ms.drop (j + 1)) ++ zs 20)))) rfl (unhide HLT) (set_in _ _ _ _ _ (unhide HAL)) ?_
                 intro W61 N61
                 replace M : Hid (Mm w W61 [(b1, 26, vwC v), (b2, 28, u8s (zs 64)), (b3, 28, u8s (([193, 0, v.fd % 256, 0] ++ zs 8 ++ zs (4 * j)) ++ (zs 4).take k ++ (q % 256) :: (tl ++ (epB (v.ms.drop (j + 1)) ++ zs 20))))]) := hide N61
                 clear N61
                 refine Stp.go ?_))
            constructor
            go_wp2_with (
              first
              | (refine wpQuo256 rfl (.tmp 53) rfl q (unhide HQ) rfl ?_
                 refine Stp.go ?_))
            constructor
            go_wp2_with fail
            go_roundw
            case rel => exact ⟨k, q / 256, q % 256 :: tl, by omega, rfl, rfl, HQ2, HE2, by have h9 := unhide M; rw [show ([193, 0, v.fd % 256, 0] ++ zs 8 ++ zs (4 * j)) ++ (zs 4).take k ++ (q % 256) :: (tl ++ (epB (v.ms.drop (j + 1)) ++ zs 20)) = ([193, 0, v.fd % 256, 0] ++ zs 8 ++ zs (4 * j)) ++ ((zs 4).take k ++ (q % 256 :: tl)) ++ (epB (v.ms.drop (j + 1)) ++ zs 20) by simp] at h9; exact h9⟩
            case measure => simp [intOf]
    | zero =>
      have hd : decide (0 ≤ ((0 : Nat) : Int) - 1) = false := by decide
      have h9 := unhide M
      rw [show rsec 0 (v.fd % 256) 0 (zs 8) (4 * 0) (v.ms.drop 0) = [193, 0, v.fd % 256] ++ 0 :: (zs 8 ++ epB v.ms ++ zs 20) by unfold rsec; simp [zs]] at h9
      replace M := hide h9
      clear h9
      rw [List.drop_zero]
      obtain ⟨bt, hbt⟩ : ∃ bt, bt = bitF 0 v.ms := ⟨_, rfl⟩
      have hbl : (bt : Int) < 256 := by have := unhide HBL; omega
      have hbl0 : 0 ≤ (bt : Int) := by omega
      go_wp2_with (
        first
        | (refine wpStoreMT size5 rfl (.tmp 57) (.tmp 56) rfl rfl b3 3 2 (.int .u8 ((bitF 0 v.ms : Nat) : Int)) ⟨rfl, rfl⟩ rfl (by first | rfl | (show Value.int _ _ = _; congr 1; have := unhide HBL; omega)) (unhide M) (u8s ([193, 0, v.fd % 256] ++ ((bitF 0 v.ms : Nat) : Int) :: (zs 8 ++ epB v.ms ++ zs 20))) rfl (by rw [u8s_len]; simp) (set_in _ _ _ _ _ rfl) ?_
           intro W71 N71
           replace M : Hid (Mm w W71 [(b1, 26, vwC v), (b2, 28, u8s (zs 64)), (b3, 28, u8s ([193, 0, v.fd % 256] ++ ((bitF 0 v.ms : Nat) : Int) :: (zs 8 ++ epB v.ms ++ zs 20)))]) := hide N71
           clear N71
           have c0 := fits_cell ((unhide M).at 0 _ rfl) 0 _ rfl
           refine Stp.go ?_))
      constructor
      go_wp2_with fail
      clear c0
      go_loopw [8, 9] (fun xe xi wr => ∃ (k : Nat) (q : Int) (tl : List Int), k ≤ 8 ∧ xe = .int .i64 q ∧ xi = .int .i64 ((k : Int) + 3) ∧ Hid (0 ≤ q ∧ q ≤ 9223372036854775807) ∧ Hid (be 8 v.nu = be k q ++ tl) ∧ Hid (Mm w wr [(b1, 26, vwC v), (b2, 28, u8s (zs 64)), (b3, 28, u8s ([193, 0, v.fd % 256, ((bitF 0 v.ms : Nat) : Int)] ++ ((zs 8).take k ++ tl) ++ (epB v.ms ++ zs 20)))])) (fun _ i _ => (intOf i).toNat)
      case atStart => exact ⟨8, v.nu, [], by omega, rfl, rfl, HNU, by show _ = _; simp, by have h9 := unhide M; rw [show [193, 0, v.fd % 256] ++ ((bitF 0 v.ms : Nat) : Int) :: (zs 8 ++ epB v.ms ++ zs 20) = [193, 0, v.fd % 256, ((bitF 0 v.ms : Nat) : Int)] ++ ((zs 8).take 8 ++ []) ++ (epB v.ms ++ zs 20) by simp [zs]] at h9; exact h9⟩
      case round =>
        clear M
        obtain ⟨k, q, tl, hk, rfl, rfl, HQ, HE, M⟩ := hrel
        cases k with
        | zero =>
          have hd : decide (4 ≤ ((0 : Nat) : Int) + 3) = false := by decide
          have h9 := unhide M
          have h8 := unhide HE
          rw [be, List.nil_append] at h8
          rw [List.take_zero, List.nil_append, ← h8] at h9
          have hS : [193, 0, v.fd % 256, ((bitF 0 v.ms : Nat) : Int)] ++ be 8 v.nu ++ (epB v.ms ++ zs 20) = (secL 0 (v.fd % 256) ((bitF 0 v.ms : Nat) : Int) v.nu v.ms 20) := by unfold secL; simp
          rw [hS] at h9
          replace M := hide h9
          clear h8 h9 hS
          go_wp2_with (
            first
            | (refine wpLoadA row28 rfl (.tmp 3) rfl b3 0 rfl (u8s (secL 0 (v.fd % 256) ((bitF 0 v.ms : Nat) : Int) v.nu v.ms 20)) (unhide HL20) ((unhide M).at 2 _ rfl).range ?_
               refine Stp.go ?_))
          constructor
          go_wp2_with (
            first
            | (refine wpStoreM row28 rfl (.tmp 2) (.tmp 71) rfl rfl b2 1 (u8s (secL 0 (v.fd % 256) ((bitF 0 v.ms : Nat) : Int) v.nu v.ms 20)) rfl rfl (unhide HL20) (u8s_one _) (unhide M) rfl (zl 64) ?_
               intro W91 N91
               replace M : Hid (Mm w W91 [(b1, 26, vwC v), (b2, 28, u8s (secL 0 (v.fd % 256) ((bitF 0 v.ms : Nat) : Int) v.nu v.ms 20)), (b3, 28, u8s (secL 0 (v.fd % 256) ((bitF 0 v.ms : Nat) : Int) v.nu v.ms 20))]) := hide N91
               clear N91
               refine Stp.go ?_))
          constructor
          go_wp2_with fail
          refine bodyPost_ret (res15 _ b2 (u8s (secL 0 (v.fd % 256) ((bitF 0 v.ms : Nat) : Int) v.nu v.ms 20)) _ rfl (unhide HL20) ((unhide M).at 1 _ rfl)) rfl ?_
          exact ⟨rfl, (unhide M).kept⟩
        | succ k =>
          have e1 : ((k + 1 : Nat) : Int) + 3 = ((k + 4 : Nat) : Int) := by omega
          rw [e1]
          clear e1
          have hk8 : ((k + 4 : Nat) : Int) < 12 := by omega
          have hd : decide (4 ≤ ((k + 4 : Nat) : Int)) = true := by simp; omega
          have h9 := unhide M
          rw [show [193, 0, v.fd % 256, ((bitF 0 v.ms : Nat) : Int)] ++ ((zs 8).take (k + 1) ++ tl) ++ (epB v.ms ++ zs 20) = [193, 0, v.fd % 256, ((bitF 0 v.ms : Nat) : Int)] ++ (zs 8).take k ++ 0 :: (tl ++ (epB v.ms ++ zs 20)) by rw [take_zs k 8 (by omega)]; simp] at h9
          replace M := hide h9
          have HAL : Hid (([193, 0, v.fd % 256, ((bitF 0 v.ms : Nat) : Int)] ++ (zs 8).take k).length = k + 4) := by show _ = _; simp [zs]; omega
          have HLT : Hid (k + 4 < (u8s ([193, 0, v.fd % 256, ((bitF 0 v.ms : Nat) : Int)] ++ (zs 8).take k ++ 0 :: (tl ++ (epB v.ms ++ zs 20)))).length) := by
            show _ < _
            rw [u8s_len, List.length_append, unhide HAL]; simp
          obtain ⟨q1, q2⟩ := unhide HQ
          have HQ2 : Hid (0 ≤ q / 256 ∧ q / 256 ≤ 9223372036854775807) := by constructor <;> omega
          have HE2 : Hid (be 8 v.nu = be k (q / 256) ++ (q % 256 :: tl)) := by show _ = _; rw [unhide HE, be]; simp
          clear h9 HE
          go_wp2_with (
            first
            | (refine wpRem256 rfl (.tmp 65) rfl q (unhide HQ) rfl ?_
               refine Stp.go ?_))
          constructor
          go_wp2_with (
            first
            | (refine wpStoreMT size5 rfl (.tmp 68) (.tmp 67) rfl rfl b3 (k + 4) 2 (.int .u8 (q % 256)) ⟨rfl, rfl⟩ rfl (by first | rfl | (show Value.int _ _ = _; congr 1; omega)) (unhide M) (u8s ([193, 0, v.fd % 256, ((bitF 0 v.ms : Nat) : Int)] ++ (zs 8).take k ++ (q % 256) :: (tl ++ (epB v.ms ++ zs 20)))) rfl (unhide HLT) (set_in _ _ _ _ _ (unhide HAL)) ?_
               intro W81 N81
               replace M : Hid (Mm w W81 [(b1, 26, vwC v), (b2, 28, u8s (zs 64)), (b3, 28, u8s ([193, 0, v.fd % 256, ((bitF 0 v.ms : Nat) : Int)] ++ (zs 8).take k ++ (q % 256) :: (tl ++ (epB v.ms ++ zs 20))))]) := hide N81
               clear N81
               refine Stp.go ?_))
          constructor
          go_wp2_with (
            first
            | (refine wpQuo256 rfl (.tmp 69) rfl q (unhide HQ) rfl ?_
               refine Stp.go ?_))
          constructor
          go_wp2_with fail
          go_roundw
          case rel => exact ⟨k, q / 256, q % 256 :: tl, by omega, rfl, by go_num, HQ2, HE2, by have h9 := unhide M; rw [show [193, 0, v.fd % 256, ((bitF 0 v.ms : Nat) : Int)] ++ (zs 8).take k ++ (q % 256) :: (tl ++ (epB v.ms ++ zs 20)) = [193, 0, v.fd % 256, ((bitF 0 v.ms : Nat) : Int)] ++ ((zs 8).take k ++ (q % 256 :: tl)) ++ (epB v.ms ++ zs 20) by simp] at h9; exact h9⟩
          case measure => simp [intOf]; omega
theorem rput15 (v : Vw) (w : World) (hF : First w) (hok : v.Ok) (hm : v.may = true) : Calls Tryd.prog 15 #[aggV (vwC v)] w fun e w' => e = .returned (aggV (u8s (putV v).1)) ∧ Kept [] w w' := by
  unfold putV
  rw [if_neg (by rw [hm]; simp)]
  by_cases hq : v = fv
  · rw [if_pos hq]; exact rput_f v w hF hok (by simpa using hq)
  · rw [if_neg hq]
    unfold secV
    cases hop : v.op with
    | true => exact rput_true v w hF hok hm (by simpa using hq) hop
    | false => exact rput_false v w hF hok hm (by simpa using hq) hop

end Go.Proofs.YtbpnnbbinhdoiaaDoor
