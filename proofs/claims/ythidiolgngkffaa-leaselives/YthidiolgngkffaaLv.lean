/-
  LeaseLives.
-/
import Derived.Test.YthidiolgngkffaaPu
import Derived.Test.YthidiolgngkffaaSp
namespace Go.Proofs.Ythidiolgngkffaa
set_option maxRecDepth 100000
open Go.RowKit


theorem put_lk {A : Int} {v : Wt} (h : v.Ok A) {m q : Int} {k : Lk} (hm : 0 ≤ m ∧ m < 8) (hq : 0 ≤ q) : (v.put m k).lk q = if q = m then k else v.lk q := by
  have hl := h.len
  unfold Wt.lk Wt.put
  simp only [List.getD_eq_getElem?_getD]
  by_cases e : q = m
  · subst e
    rw [if_pos rfl, List.getElem?_set_self (by omega)]
    rfl
  · rw [if_neg e, List.getElem?_set_ne (by omega)]
/-- What stands behind i rounds. -/
structure Lv (p : Int) (lx : Le) (i : Nat) (v : Wt) : Prop where
  n : v.n = 3
  p : v.p = p
  ok : v.Ok (3 * i)
  z0 : i = 0 → v.lk 0 = lk0 ∧ v.lk 1 = lk0
  z1 : 0 < i → v.lk 0 = ⟨true, lx, (i : Int) - 1⟩ ∧ v.lk 1 = ⟨true, ⟨lx.ep, lx.be + ((i : Int) - 1), lx.re⟩, 0⟩
theorem Lv.has {p : Int} {lx : Le} {i : Nat} {v : Wt} (h : Lv p lx i v) {m : Int} (h0 : 0 ≤ m) (h3 : m < 3) : v.has m = true := by
  simp [Wt.has, h.n]; omega
/-- The same, whatever a look at the third one leaves. -/
structure Lw (p : Int) (lx : Le) (i : Nat) (v : Wt) : Prop where
  n : v.n = 3
  p : v.p = p
  ok : v.Ok (3 * i + 1)
  z0 : i = 0 → v.lk 0 = lk0 ∧ v.lk 1 = lk0
  z1 : 0 < i → v.lk 0 = ⟨true, lx, (i : Int) - 1⟩ ∧ v.lk 1 = ⟨true, ⟨lx.ep, lx.be + ((i : Int) - 1), lx.re⟩, 0⟩
theorem Lv.weak {p : Int} {lx : Le} {i : Nat} {v : Wt} (h : Lv p lx i v) : Lw p lx i v := ⟨h.n, h.p, h.ok.mono (by omega), h.z0, h.z1⟩
theorem Lv.two {p : Int} {lx : Le} {i : Nat} {v : Wt} (h : Lv p lx i v) (x : Le) : Lw p lx i (v.look 2 x).1 := by
  have hok := look_ok h.ok (by omega) 2 x
  have hl : ∀ q : Int, 0 ≤ q → q < 2 → (v.look 2 x).1.lk q = v.lk q := by
    intro q h0 h2
    unfold Wt.look
    split
    · rfl
    · rw [put_lk h.ok (by omega) h0, if_neg (by omega)]
  have hn : (v.look 2 x).1.n = v.n ∧ (v.look 2 x).1.p = v.p := by
    unfold Wt.look
    split <;> exact ⟨rfl, rfl⟩
  exact ⟨hn.1.trans h.n, hn.2.trans h.p, hok, fun hi => by rw [hl 0 (by omega) (by omega), hl 1 (by omega) (by omega)]; exact h.z0 hi, fun hi => by rw [hl 0 (by omega) (by omega), hl 1 (by omega) (by omega)]; exact h.z1 hi⟩
def nx (lx : Le) (i : Nat) : Le := ⟨lx.ep, lx.be + (i : Int), lx.re⟩
theorem Lw.next {p : Int} {lx : Le} {i : Nat} {v : Wt} (h : Lw p lx i v) (hm : lx.may = true) (hb : lx.be ≤ 1152921504606846976) (hi : i < 200) (hp : 1 ≤ p) :
    (v.look 0 lx).2 = (decide (p ≤ (i : Int)), 0) ∧ ((v.look 0 lx).1.look 1 (nx lx i)).2 = (false, 0) ∧ Lv p lx (i + 1) ((v.look 0 lx).1.look 1 (nx lx i)).1 ∧ (((v.look 0 lx).1.look 1 (nx lx i)).1.of 0).age = i ∧ (v.look 0 lx).1.Ok (3 * i + 2) := by
  have hh0 : v.has 0 = true := by simp [Wt.has, h.n]
  have hs0 : v.see 0 lx = ⟨true, lx, i⟩ := by
    unfold Wt.see
    by_cases h0 : i = 0
    · rw [(h.z0 h0).1, if_neg (by simp [lk0]), h0]; rfl
    · rw [(h.z1 (by omega)).1, if_pos ⟨rfl, rfl⟩]; simp
  have hv3 : v.look 0 lx = (v.put 0 ⟨true, lx, i⟩, decide (p ≤ (i : Int)), 0) := by
    unfold Wt.look
    rw [if_neg (by rw [hh0, hm]; simp), hs0, h.p]
  have hok3 : (v.put 0 ⟨true, lx, i⟩).Ok (3 * i + 2) := by have := look_ok h.ok (by omega) 0 lx; rw [hv3] at this; exact this.mono (by omega)
  have hh1 : (v.put 0 ⟨true, lx, i⟩).has 1 = true := by show decide (0 ≤ (1 : Int) ∧ (1 : Int) < v.n) = true; rw [h.n]; decide
  have hm1 : (nx lx i).may = true := by
    simp only [Le.may, decide_eq_true_eq] at hm
    show decide (0 ≤ lx.ep ∧ lx.ep ≤ 2147483647 ∧ 0 ≤ lx.be + (i : Int) ∧ lx.be + (i : Int) ≤ 4611686018427387904 ∧ 0 ≤ lx.re ∧ lx.re ≤ 4611686018427387904) = true
    rw [decide_eq_true_eq]
    omega
  have hl1 : (v.put 0 ⟨true, lx, i⟩).lk 1 = v.lk 1 := by rw [put_lk h.ok (by omega) (by omega), if_neg (by omega)]
  have hs1 : (v.put 0 ⟨true, lx, i⟩).see 1 (nx lx i) = ⟨true, nx lx i, 0⟩ := by
    unfold Wt.see
    rw [hl1]
    by_cases h0 : i = 0
    · rw [(h.z0 h0).2, if_neg (by simp [lk0])]
    · rw [(h.z1 (by omega)).2, if_neg]
      rintro ⟨_, e⟩
      have := congrArg Le.be e
      simp [nx] at this
      omega
  have hv4 : (v.put 0 ⟨true, lx, i⟩).look 1 (nx lx i) = ((v.put 0 ⟨true, lx, i⟩).put 1 ⟨true, nx lx i, 0⟩, false, 0) := by
    unfold Wt.look
    rw [if_neg (by rw [hh1, hm1]; simp), hs1]
    have : decide ((v.put 0 ⟨true, lx, i⟩).p ≤ (Lk.mk true (nx lx i) 0).age) = false := by
      show decide (v.p ≤ 0) = false
      rw [h.p]
      simp; omega
    rw [this]
  have hok4 : ((v.put 0 ⟨true, lx, i⟩).put 1 ⟨true, nx lx i, 0⟩).Ok (3 * (i + 1 : Nat)) := by
    have := look_ok hok3 (by omega) 1 (nx lx i)
    rw [hv4] at this
    exact this.mono (by omega)
  have hl40 : ((v.put 0 ⟨true, lx, i⟩).put 1 ⟨true, nx lx i, 0⟩).lk 0 = ⟨true, lx, i⟩ := by
    rw [put_lk hok3 (by omega) (by omega), if_neg (by omega), put_lk h.ok (by omega) (by omega), if_pos rfl]
  have hl41 : ((v.put 0 ⟨true, lx, i⟩).put 1 ⟨true, nx lx i, 0⟩).lk 1 = ⟨true, nx lx i, 0⟩ := by
    rw [put_lk hok3 (by omega) (by omega), if_pos rfl]
  rw [hv3]
  refine ⟨rfl, ?_, ?_, ?_, hok3⟩
  · show ((v.put 0 ⟨true, lx, i⟩).look 1 (nx lx i)).2 = _
    rw [hv4]
  · show Lv p lx (i + 1) ((v.put 0 ⟨true, lx, i⟩).look 1 (nx lx i)).1
    rw [hv4]
    refine ⟨h.n, h.p, hok4, fun h0 => by omega, fun _ => ⟨?_, ?_⟩⟩
    · rw [hl40]; congr 1; omega
    · rw [hl41]; unfold nx; congr 2; omega
  · show (((v.put 0 ⟨true, lx, i⟩).look 1 (nx lx i)).1.of 0).age = i
    rw [hv4]
    unfold Wt.of
    rw [if_pos (by show decide (0 ≤ (0 : Int) ∧ (0 : Int) < v.n) = true; rw [h.n]; decide)]
    show (((v.put 0 ⟨true, lx, i⟩).put 1 ⟨true, nx lx i, 0⟩).lk 0).age = i
    rw [hl40]
theorem lv0 {p : Int} (lx : Le) (h : sizeOk 3 p = true) : Lv p lx 0 ⟨3, p, lk8⟩ := ⟨rfl, rfl, (new_ok h).mono (by omega), fun _ => ⟨rfl, rfl⟩, fun h => by omega⟩
set_option maxHeartbeats 2000000 in
theorem lives_a (p : Int) (ao : Option Addr) (N c : Nat) (lx : Le) (w : World) (hz : sizeOk 3 p = false) : Calls Try.prog 6 #[.int .i64 p, .slice ao N c, aggV lx.C] w fun e w' => e = .returned (.bool true) ∧ Kept [] w w' := by
  have PN : ∀ W, Hid (Calls Try.prog 15 #[.int .i64 3, .int .i64 p] W fun e w' => e = .returned (.tuple #[.pointer none, .int .i64 2]) ∧ w' = W) := fun W => hide (new_no 3 p W hz)
  go_enter Try.func6, Try.ntmps6
  have M : Hid (Mm [] w w []) := hide Mm.init
  go_wp2_with (
    first
    | (refine wpBoxV rfl (.tmp 2) rfl (lx.C) rfl ?_
       intro W1 b1 e1 B1 K1
       replace M : Hid (Mm [] w W1 [(b1, 23, lx.C)]) := hide ((unhide M).new e1 B1 K1)
       clear e1 B1 K1
       refine Stp.go ?_))
  constructor
  go_wp2_with (
    first
    | (go_at_call 13
       refine (known13 _).mono ?_
       rintro e W2 ⟨rfl, K2⟩
       replace M : Hid (Mm [] w W2 [(b1, 23, lx.C)]) := hide ((unhide M).step K2)
       clear K2
       refine Stp.go ?_))
  constructor
  go_wp2_with (
    first
    | (go_at_call 15
       refine (unhide (PN _)).mono ?_
       rintro e W3 ⟨rfl, q3⟩
       replace q3 := q3.symm
       subst q3
       refine Stp.go ?_))
  constructor
  go_wp2_with (
    first
    | (go_at_call 11
       refine (num11 _ _).mono ?_
       rintro e W4 ⟨rfl, q4⟩
       replace q4 := q4.symm
       subst q4
       refine Stp.go ?_))
  constructor
  go_wp2_with fail
  go_ret
  exact ⟨rfl, (unhide M).kept⟩
set_option maxHeartbeats 2000000 in
theorem lives_b (p : Int) (ao : Option Addr) (N c : Nat) (lx : Le) (w : World) (hz : sizeOk 3 p = true) (hm : lx.may = false) : Calls Try.prog 6 #[.int .i64 p, .slice ao N c, aggV lx.C] w fun e w' => e = .returned (.bool true) ∧ Kept [] w w' := by
  have PN : ∀ W, Hid (Calls Try.prog 15 #[.int .i64 3, .int .i64 p] W fun e w' => ∃ b, e = .returned (.tuple #[P0 b, .int .i64 0]) ∧ b = W.heap.size ∧ Blk w' b 65 (Wt.mk 3 p lk8).C ∧ Kept [] W w') := fun W => hide (new_yes 3 p W hz)
  have PM : ∀ W, Hid (Calls Try.prog 12 #[aggV lx.C] W fun e w' => e = .returned (.bool false) ∧ Kept [] W w') := fun W => hide (by have := rmay12 lx W; rw [hm] at this; exact this)
  go_enter Try.func6, Try.ntmps6
  have M : Hid (Mm [] w w []) := hide Mm.init
  go_wp2_with (
    first
    | (refine wpBoxV rfl (.tmp 2) rfl (lx.C) rfl ?_
       intro W1 b1 e1 B1 K1
       replace M : Hid (Mm [] w W1 [(b1, 23, lx.C)]) := hide ((unhide M).new e1 B1 K1)
       clear e1 B1 K1
       refine Stp.go ?_))
  constructor
  go_wp2_with (
    first
    | (go_at_call 13
       refine (known13 _).mono ?_
       rintro e W2 ⟨rfl, K2⟩
       replace M : Hid (Mm [] w W2 [(b1, 23, lx.C)]) := hide ((unhide M).step K2)
       clear K2
       refine Stp.go ?_))
  constructor
  go_wp2_with (
    first
    | (go_at_call 15
       refine (unhide (PN _)).mono ?_
       rintro e W3 ⟨bw, rfl, eb, B3, K3⟩
       replace M : Hid (Mm [] w W3 [(b1, 23, lx.C), (bw, 65, (Wt.mk 3 p lk8).C)]) := hide ((unhide M).new eb B3 K3)
       clear eb B3 K3
       refine Stp.go ?_))
  constructor
  go_wp2_with (
    first
    | (go_at_call 11
       refine (num11 _ _).mono ?_
       rintro e W4 ⟨rfl, q4⟩
       replace q4 := q4.symm
       subst q4
       refine Stp.go ?_))
  constructor
  go_wp2_with (
    first
    | (refine wpLoadG row23 (.tmp 5) rfl rfl b1 0 rfl (lx.C) rfl ((unhide M).at 0 _ rfl).range ?_
       refine Stp.go ?_))
  constructor
  go_wp2_with (
    first
    | (go_at_call 12
       refine (unhide (PM _)).mono ?_
       rintro e W5 ⟨rfl, K5⟩
       replace M : Hid (Mm [] w W5 [(b1, 23, lx.C), (bw, 65, (Wt.mk 3 p lk8).C)]) := hide ((unhide M).step K5)
       clear K5
       refine Stp.go ?_))
  constructor
  go_wp2_with fail
  go_ret
  exact ⟨rfl, (unhide M).kept⟩
set_option maxHeartbeats 2000000 in
theorem lives_c (p : Int) (ao : Option Addr) (N c : Nat) (lx : Le) (w : World) (hz : sizeOk 3 p = true) (hm : lx.may = true) (hb : 1152921504606846976 < lx.be) : Calls Try.prog 6 #[.int .i64 p, .slice ao N c, aggV lx.C] w fun e w' => e = .returned (.bool true) ∧ Kept [] w w' := by
  have PN : ∀ W, Hid (Calls Try.prog 15 #[.int .i64 3, .int .i64 p] W fun e w' => ∃ b, e = .returned (.tuple #[P0 b, .int .i64 0]) ∧ b = W.heap.size ∧ Blk w' b 65 (Wt.mk 3 p lk8).C ∧ Kept [] W w') := fun W => hide (new_yes 3 p W hz)
  have PM : ∀ W, Hid (Calls Try.prog 12 #[aggV lx.C] W fun e w' => e = .returned (.bool true) ∧ Kept [] W w') := fun W => hide (by have := rmay12 lx W; rw [hm] at this; exact this)
  have hdb : decide (1152921504606846976 < lx.be) = true := by simpa using hb
  go_enter Try.func6, Try.ntmps6
  have M : Hid (Mm [] w w []) := hide Mm.init
  go_wp2_with (
    first
    | (refine wpBoxV rfl (.tmp 2) rfl (lx.C) rfl ?_
       intro W1 b1 e1 B1 K1
       replace M : Hid (Mm [] w W1 [(b1, 23, lx.C)]) := hide ((unhide M).new e1 B1 K1)
       clear e1 B1 K1
       refine Stp.go ?_))
  constructor
  go_wp2_with (
    first
    | (go_at_call 13
       refine (known13 _).mono ?_
       rintro e W2 ⟨rfl, K2⟩
       replace M : Hid (Mm [] w W2 [(b1, 23, lx.C)]) := hide ((unhide M).step K2)
       clear K2
       refine Stp.go ?_))
  constructor
  go_wp2_with (
    first
    | (go_at_call 15
       refine (unhide (PN _)).mono ?_
       rintro e W3 ⟨bw, rfl, eb, B3, K3⟩
       replace M : Hid (Mm [] w W3 [(b1, 23, lx.C), (bw, 65, (Wt.mk 3 p lk8).C)]) := hide ((unhide M).new eb B3 K3)
       clear eb B3 K3
       refine Stp.go ?_))
  constructor
  go_wp2_with (
    first
    | (go_at_call 11
       refine (num11 _ _).mono ?_
       rintro e W4 ⟨rfl, q4⟩
       replace q4 := q4.symm
       subst q4
       refine Stp.go ?_))
  constructor
  go_wp2_with (
    first
    | (refine wpLoadG row23 (.tmp 5) rfl rfl b1 0 rfl (lx.C) rfl ((unhide M).at 0 _ rfl).range ?_
       refine Stp.go ?_))
  constructor
  go_wp2_with (
    first
    | (go_at_call 12
       refine (unhide (PM _)).mono ?_
       rintro e W5 ⟨rfl, K5⟩
       replace M : Hid (Mm [] w W5 [(b1, 23, lx.C), (bw, 65, (Wt.mk 3 p lk8).C)]) := hide ((unhide M).step K5)
       clear K5
       have d1 := fits_cell ((unhide M).at 0 _ rfl) 1 _ rfl
       refine Stp.go ?_))
  constructor
  go_wp2_with fail
  go_ret
  exact ⟨rfl, (unhide M).kept⟩
set_option maxHeartbeats 8000000 in
theorem lives_d (p : Int) (ao : Option Addr) (N c : Nat) (X : List Sp) (lx : Le) (w : World) (hN : X.length = N) (hX : StepS w ao X) (hz : sizeOk 3 p = true) (hm : lx.may = true) (hb : lx.be ≤ 1152921504606846976) : Calls Try.prog 6 #[.int .i64 p, .slice ao N c, aggV lx.C] w fun e w' => e = .returned (.bool true) ∧ Kept [] w w' := by
  have PN : ∀ W, Hid (Calls Try.prog 15 #[.int .i64 3, .int .i64 p] W fun e w' => ∃ b, e = .returned (.tuple #[P0 b, .int .i64 0]) ∧ b = W.heap.size ∧ Blk w' b 65 (Wt.mk 3 p lk8).C ∧ Kept [] W w') := fun W => hide (new_yes 3 p W hz)
  have PM : ∀ W, Hid (Calls Try.prog 12 #[aggV lx.C] W fun e w' => e = .returned (.bool true) ∧ Kept [] W w') := fun W => hide (by have := rmay12 lx W; rw [hm] at this; exact this)
  have hdb : decide (1152921504606846976 < lx.be) = false := by simpa using hb
  have hp1 : 1 ≤ p := by simp [sizeOk] at hz; omega
  have hp2 : p ≤ 100 := by simp [sizeOk] at hz; omega
  have HX := hide hX
  have HN := hide hN
  have HZ := hide hz
  have hb0 : 0 ≤ lx.be := by simp [Le.may] at hm; omega
  clear hN hX hz
  go_enter Try.func6, Try.ntmps6
  have M : Hid (Mm [] w w []) := hide Mm.init
  go_wp2_with (
    first
    | (refine wpBoxV rfl (.tmp 2) rfl (lx.C) rfl ?_
       intro W1 b1 e1 B1 K1
       replace M : Hid (Mm [] w W1 [(b1, 23, lx.C)]) := hide ((unhide M).new e1 B1 K1)
       clear e1 B1 K1
       refine Stp.go ?_))
  constructor
  go_wp2_with (
    first
    | (go_at_call 13
       refine (known13 _).mono ?_
       rintro e W2 ⟨rfl, K2⟩
       replace M : Hid (Mm [] w W2 [(b1, 23, lx.C)]) := hide ((unhide M).step K2)
       clear K2
       refine Stp.go ?_))
  constructor
  go_wp2_with (
    first
    | (go_at_call 15
       refine (unhide (PN _)).mono ?_
       rintro e W3 ⟨bw, rfl, eb, B3, K3⟩
       replace M : Hid (Mm [] w W3 [(b1, 23, lx.C), (bw, 65, (Wt.mk 3 p lk8).C)]) := hide ((unhide M).new eb B3 K3)
       clear eb B3 K3
       refine Stp.go ?_))
  constructor
  go_wp2_with (
    first
    | (go_at_call 11
       refine (num11 _ _).mono ?_
       rintro e W4 ⟨rfl, q4⟩
       replace q4 := q4.symm
       subst q4
       refine Stp.go ?_))
  constructor
  go_wp2_with (
    first
    | (refine wpLoadG row23 (.tmp 5) rfl rfl b1 0 rfl (lx.C) rfl ((unhide M).at 0 _ rfl).range ?_
       refine Stp.go ?_))
  constructor
  go_wp2_with (
    first
    | (go_at_call 12
       refine (unhide (PM _)).mono ?_
       rintro e W5 ⟨rfl, K5⟩
       replace M : Hid (Mm [] w W5 [(b1, 23, lx.C), (bw, 65, (Wt.mk 3 p lk8).C)]) := hide ((unhide M).step K5)
       clear K5
       have d1 := fits_cell ((unhide M).at 0 _ rfl) 1 _ rfl
       refine Stp.go ?_))
  constructor
  go_wp2_with fail
  clear PN PM hdb d1
  go_loopw [9] (fun i wr => ∃ (j : Nat) (v : Wt), j ≤ 200 ∧ i = .int .i64 j ∧ Hid (Lv p lx j v) ∧ Hid (Mm [] w wr [(b1, 23, lx.C), (bw, 65, Wt.C v)])) (fun i _ => 200 - (intOf i).toNat)
  case atStart => exact ⟨0, _, by omega, rfl, lv0 lx (unhide HZ), M⟩
  case round =>
    clear M
    obtain ⟨j, v, hj, rfl, HV, M⟩ := hrel
    by_cases hlt : j < 200
    rotate_left
    · have hd : decide ((j : Int) < 200) = false := by simp; omega
      go_wp2_with fail
      go_ret
      exact ⟨rfl, (unhide M).kept⟩
    have hjI : (j : Int) < 200 := by omega
    have hd : decide ((j : Int) < 200) = true := by simpa using hjI
    by_cases hjn : j < N
    rotate_left
    · have hdn : decide ((j : Int) < (N : Int)) = false := by simp; omega
      have hw := (unhide HV).weak
      obtain ⟨n1, n2, n3, n4, n5⟩ := Lw.next (v := v) hw hm hb hlt hp1
      obtain ⟨v3, hv3⟩ : ∃ v3, v3 = (v.look 0 lx).1 := ⟨_, rfl⟩
      obtain ⟨v4, hv4⟩ : ∃ v4, v4 = ((v.look 0 lx).1.look 1 (nx lx j)).1 := ⟨_, rfl⟩
      rw [← hv3] at n2 n3 n4 n5
      rw [← hv3] at hv4
      rw [← hv4] at n3 n4
      have Q0 : ∀ W, Blk W bw 65 (Wt.C v) → Hid (Calls Try.prog 21 #[P0 bw, .int .i64 0, aggV lx.C] W fun e w' => e = .returned (.tuple #[.bool (decide (p ≤ (j : Int))), .int .i64 0]) ∧ Blk w' bw 65 (Wt.C v3) ∧ Kept [bw] W w') := fun W hW => hide (by have := look21 v bw 0 lx W hW hw.ok ⟨by omega, by omega⟩; rw [n1, ← hv3] at this; exact this)
      have Q1 : ∀ W, Blk W bw 65 (Wt.C v3) → Hid (Calls Try.prog 21 #[P0 bw, .int .i64 1, aggV (nx lx j).C] W fun e w' => e = .returned (.tuple #[.bool false, .int .i64 0]) ∧ Blk w' bw 65 (Wt.C v4) ∧ Kept [bw] W w') := fun W hW => hide (by have := look21 v3 bw 1 (nx lx j) W hW n5 ⟨by omega, by omega⟩; rw [n2, ← hv4] at this; exact this)
      have Q2 : ∀ W, Blk W bw 65 (Wt.C v4) → Hid (Calls Try.prog 22 #[P0 bw, .int .i64 0] W fun e w' => e = .returned (.int .i64 j) ∧ w' = W) := fun W hW => hide (by have := age22 v4 bw 0 W hW n3.ok; rw [n4] at this; exact this)
      have HN3 := hide n3
      clear n1 n2 n3 n4 n5 hv3 hv4
      clear hw
      go_wp2_with (
        first
        | (refine wpLoadA row23 rfl (.tmp 5) rfl b1 0 rfl (lx.C) rfl ((unhide M).at 0 _ rfl).range ?_
           refine Stp.go ?_))
      constructor
      go_wp2_with (
        first
        | (go_at_call 21
           refine (unhide (Q0 _ ((unhide M).at 1 _ rfl))).mono ?_
           rintro e W21 ⟨rfl, B21, K21⟩
           replace M : Hid (Mm [] w W21 [(b1, 23, lx.C), (bw, 65, Wt.C v3)]) := hide ((unhide M).mut 1 rfl K21 B21)
           clear B21 K21
           have d0 := fits_cell ((unhide M).at 0 _ rfl) 0 _ rfl
           have d1 := fits_cell ((unhide M).at 0 _ rfl) 1 _ rfl
           have d2 := fits_cell ((unhide M).at 0 _ rfl) 2 _ rfl
           refine Stp.go ?_))
      constructor
      go_wp2_with (
        first
        | (refine wpBuildP (by rfl) #[(0, .tmp 66), (1, .tmp 70), (2, .tmp 72)] (by rfl) #[(0, .int .i64 lx.ep), (1, .int .i64 (lx.be + (j : Int))), (2, .int .i64 lx.re)] (by kernel_rfl) (nx lx j).C (build23p _ _ _ _) ?_
           clear d0 d1 d2
           refine Stp.go ?_))
      constructor
      go_wp2_with (
        first
        | (go_at_call 21
           refine (unhide (Q1 _ ((unhide M).at 1 _ rfl))).mono ?_
           rintro e W22 ⟨rfl, B22, K22⟩
           replace M : Hid (Mm [] w W22 [(b1, 23, lx.C), (bw, 65, Wt.C v4)]) := hide ((unhide M).mut 1 rfl K22 B22)
           clear B22 K22
           refine Stp.go ?_))
      constructor
      go_wp2_with (
        first
        | (go_at_call 11
           refine (num11 _ _).mono ?_
           rintro e W23 ⟨rfl, q23⟩
           replace q23 := q23.symm
           subst q23
           refine Stp.go ?_))
      constructor
      go_wp2_with (
        first
        | (go_at_call 11
           refine (num11 _ _).mono ?_
           rintro e W24 ⟨rfl, q24⟩
           replace q24 := q24.symm
           subst q24
           refine Stp.go ?_))
      constructor
      go_wp2_with (
        first
        | (go_at_call 22
           refine (unhide (Q2 _ ((unhide M).at 1 _ rfl))).mono ?_
           rintro e W25 ⟨rfl, q25⟩
           replace q25 := q25.symm
           subst q25
           refine Stp.go ?_))
      constructor
      go_wp2_with fail
      clear Q0 Q1 Q2
      go_roundw
      case rel => exact ⟨j + 1, v4, by omega, by go_num, HN3, M⟩
      case measure => simp [intOf]; omega
    have hjnI : (j : Int) < (N : Int) := by omega
    have hdn : decide ((j : Int) < (N : Int)) = true := by simpa using hjnI
    obtain ⟨x, hx⟩ : ∃ x, X[j]? = some x := ⟨_, List.getElem?_eq_getElem (by have := unhide HN; omega)⟩
    obtain ⟨bo, oo, rfl, hcs⟩ := (unhide HX) j x hx
    have ck : wr.cell? ⟨bo, oo + j * 5, none⟩ = some (.int .i64 x.kd) := (unhide M).kept.cell (hcs 0 _ rfl) (by simp)
    by_cases hk : x.kd = 1
    rotate_left
    · have hdk : decide (x.kd = 1) = false := by simpa using hk
      have hdk2 : (x.kd == 1) = false := by simpa using hk
      have hw := (unhide HV).weak
      clear hcs hx hk
      obtain ⟨n1, n2, n3, n4, n5⟩ := Lw.next (v := v) hw hm hb hlt hp1
      obtain ⟨v3, hv3⟩ : ∃ v3, v3 = (v.look 0 lx).1 := ⟨_, rfl⟩
      obtain ⟨v4, hv4⟩ : ∃ v4, v4 = ((v.look 0 lx).1.look 1 (nx lx j)).1 := ⟨_, rfl⟩
      rw [← hv3] at n2 n3 n4 n5
      rw [← hv3] at hv4
      rw [← hv4] at n3 n4
      have Q0 : ∀ W, Blk W bw 65 (Wt.C v) → Hid (Calls Try.prog 21 #[P0 bw, .int .i64 0, aggV lx.C] W fun e w' => e = .returned (.tuple #[.bool (decide (p ≤ (j : Int))), .int .i64 0]) ∧ Blk w' bw 65 (Wt.C v3) ∧ Kept [bw] W w') := fun W hW => hide (by have := look21 v bw 0 lx W hW hw.ok ⟨by omega, by omega⟩; rw [n1, ← hv3] at this; exact this)
      have Q1 : ∀ W, Blk W bw 65 (Wt.C v3) → Hid (Calls Try.prog 21 #[P0 bw, .int .i64 1, aggV (nx lx j).C] W fun e w' => e = .returned (.tuple #[.bool false, .int .i64 0]) ∧ Blk w' bw 65 (Wt.C v4) ∧ Kept [bw] W w') := fun W hW => hide (by have := look21 v3 bw 1 (nx lx j) W hW n5 ⟨by omega, by omega⟩; rw [n2, ← hv4] at this; exact this)
      have Q2 : ∀ W, Blk W bw 65 (Wt.C v4) → Hid (Calls Try.prog 22 #[P0 bw, .int .i64 0] W fun e w' => e = .returned (.int .i64 j) ∧ w' = W) := fun W hW => hide (by have := age22 v4 bw 0 W hW n3.ok; rw [n4] at this; exact this)
      have HN3 := hide n3
      clear n1 n2 n3 n4 n5 hv3 hv4
      clear hw
      go_wp2_with (
        first
        | (refine wpLoadA row23 rfl (.tmp 5) rfl b1 0 rfl (lx.C) rfl ((unhide M).at 0 _ rfl).range ?_
           refine Stp.go ?_))
      constructor
      go_wp2_with (
        first
        | (go_at_call 21
           refine (unhide (Q0 _ ((unhide M).at 1 _ rfl))).mono ?_
           rintro e W21 ⟨rfl, B21, K21⟩
           replace M : Hid (Mm [] w W21 [(b1, 23, lx.C), (bw, 65, Wt.C v3)]) := hide ((unhide M).mut 1 rfl K21 B21)
           clear B21 K21
           have d0 := fits_cell ((unhide M).at 0 _ rfl) 0 _ rfl
           have d1 := fits_cell ((unhide M).at 0 _ rfl) 1 _ rfl
           have d2 := fits_cell ((unhide M).at 0 _ rfl) 2 _ rfl
           refine Stp.go ?_))
      constructor
      go_wp2_with (
        first
        | (refine wpBuildP (by rfl) #[(0, .tmp 66), (1, .tmp 70), (2, .tmp 72)] (by rfl) #[(0, .int .i64 lx.ep), (1, .int .i64 (lx.be + (j : Int))), (2, .int .i64 lx.re)] (by kernel_rfl) (nx lx j).C (build23p _ _ _ _) ?_
           clear d0 d1 d2
           refine Stp.go ?_))
      constructor
      go_wp2_with (
        first
        | (go_at_call 21
           refine (unhide (Q1 _ ((unhide M).at 1 _ rfl))).mono ?_
           rintro e W22 ⟨rfl, B22, K22⟩
           replace M : Hid (Mm [] w W22 [(b1, 23, lx.C), (bw, 65, Wt.C v4)]) := hide ((unhide M).mut 1 rfl K22 B22)
           clear B22 K22
           refine Stp.go ?_))
      constructor
      go_wp2_with (
        first
        | (go_at_call 11
           refine (num11 _ _).mono ?_
           rintro e W23 ⟨rfl, q23⟩
           replace q23 := q23.symm
           subst q23
           refine Stp.go ?_))
      constructor
      go_wp2_with (
        first
        | (go_at_call 11
           refine (num11 _ _).mono ?_
           rintro e W24 ⟨rfl, q24⟩
           replace q24 := q24.symm
           subst q24
           refine Stp.go ?_))
      constructor
      go_wp2_with (
        first
        | (go_at_call 22
           refine (unhide (Q2 _ ((unhide M).at 1 _ rfl))).mono ?_
           rintro e W25 ⟨rfl, q25⟩
           replace q25 := q25.symm
           subst q25
           refine Stp.go ?_))
      constructor
      go_wp2_with fail
      clear Q0 Q1 Q2 ck
      go_roundw
      case rel => exact ⟨j + 1, v4, by omega, by go_num, HN3, M⟩
      case measure => simp [intOf]; omega
    · have hdk : decide (x.kd = 1) = true := by simpa using hk
      have hdk2 : (x.kd == 1) = true := by simpa using hk
      have HXL : Hid (∀ W, Kept [] w W → W.rangeAt bo (oo + j * 5 + 2) x.l.C) := by
        intro W hW i u hu
        have h3 : i < 3 := by have := (List.getElem?_eq_some_iff.1 hu).1; simpa [Le.C] using this
        have := hcs (2 + i) u (by rcases (show i = 0 ∨ i = 1 ∨ i = 2 by omega) with rfl | rfl | rfl <;> exact hu)
        rw [← Nat.add_assoc] at this
        exact hW.cell this (by simp)
      have hvo := (unhide HV).ok
      have hw := (unhide HV).two x.l
      obtain ⟨v2, hv2⟩ : ∃ v2, v2 = (v.look 2 x.l).1 := ⟨_, rfl⟩
      obtain ⟨r1, hr1⟩ : ∃ r1, r1 = (v.look 2 x.l).2.1 := ⟨_, rfl⟩
      obtain ⟨r2, hr2⟩ : ∃ r2, r2 = (v.look 2 x.l).2.2 := ⟨_, rfl⟩
      have QT : ∀ W, Blk W bw 65 (Wt.C v) → Hid (Calls Try.prog 21 #[P0 bw, .int .i64 2, aggV x.l.C] W fun e w' => e = .returned (.tuple #[.bool r1, .int .i64 r2]) ∧ Blk w' bw 65 (Wt.C v2) ∧ Kept [bw] W w') := fun W hW => hide (by have := look21 v bw 2 x.l W hW hvo ⟨by omega, by omega⟩; rw [← hv2, ← hr1, ← hr2] at this; exact this)
      rw [← hv2] at hw
      clear hv2 hr1 hr2 hvo hcs hx
      obtain ⟨n1, n2, n3, n4, n5⟩ := Lw.next (v := v2) hw hm hb hlt hp1
      obtain ⟨v3, hv3⟩ : ∃ v3, v3 = (v2.look 0 lx).1 := ⟨_, rfl⟩
      obtain ⟨v4, hv4⟩ : ∃ v4, v4 = ((v2.look 0 lx).1.look 1 (nx lx j)).1 := ⟨_, rfl⟩
      rw [← hv3] at n2 n3 n4 n5
      rw [← hv3] at hv4
      rw [← hv4] at n3 n4
      have Q0 : ∀ W, Blk W bw 65 (Wt.C v2) → Hid (Calls Try.prog 21 #[P0 bw, .int .i64 0, aggV lx.C] W fun e w' => e = .returned (.tuple #[.bool (decide (p ≤ (j : Int))), .int .i64 0]) ∧ Blk w' bw 65 (Wt.C v3) ∧ Kept [bw] W w') := fun W hW => hide (by have := look21 v2 bw 0 lx W hW hw.ok ⟨by omega, by omega⟩; rw [n1, ← hv3] at this; exact this)
      have Q1 : ∀ W, Blk W bw 65 (Wt.C v3) → Hid (Calls Try.prog 21 #[P0 bw, .int .i64 1, aggV (nx lx j).C] W fun e w' => e = .returned (.tuple #[.bool false, .int .i64 0]) ∧ Blk w' bw 65 (Wt.C v4) ∧ Kept [bw] W w') := fun W hW => hide (by have := look21 v3 bw 1 (nx lx j) W hW n5 ⟨by omega, by omega⟩; rw [n2, ← hv4] at this; exact this)
      have Q2 : ∀ W, Blk W bw 65 (Wt.C v4) → Hid (Calls Try.prog 22 #[P0 bw, .int .i64 0] W fun e w' => e = .returned (.int .i64 j) ∧ w' = W) := fun W hW => hide (by have := age22 v4 bw 0 W hW n3.ok; rw [n4] at this; exact this)
      have HN3 := hide n3
      clear n1 n2 n3 n4 n5 hv3 hv4
      clear hw hk
      go_wp2_with (
        first
        | (refine wpLoadA row23 rfl (.tmp 54) rfl bo (oo + j * 5 + 2) rfl x.l.C rfl (unhide HXL _ (unhide M).kept) ?_
           clear ck
           refine Stp.go ?_))
      constructor
      go_wp2_with (
        first
        | (go_at_call 21
           refine (unhide (QT _ ((unhide M).at 1 _ rfl))).mono ?_
           rintro e W41 ⟨rfl, B41, K41⟩
           replace M : Hid (Mm [] w W41 [(b1, 23, lx.C), (bw, 65, Wt.C v2)]) := hide ((unhide M).mut 1 rfl K41 B41)
           clear B41 K41
           refine Stp.go ?_))
      constructor
      go_wp2_with (
        first
        | (refine wpLoadA row23 rfl (.tmp 5) rfl b1 0 rfl (lx.C) rfl ((unhide M).at 0 _ rfl).range ?_
           refine Stp.go ?_))
      constructor
      go_wp2_with (
        first
        | (go_at_call 21
           refine (unhide (Q0 _ ((unhide M).at 1 _ rfl))).mono ?_
           rintro e W61 ⟨rfl, B61, K61⟩
           replace M : Hid (Mm [] w W61 [(b1, 23, lx.C), (bw, 65, Wt.C v3)]) := hide ((unhide M).mut 1 rfl K61 B61)
           clear B61 K61
           have d0 := fits_cell ((unhide M).at 0 _ rfl) 0 _ rfl
           have d1 := fits_cell ((unhide M).at 0 _ rfl) 1 _ rfl
           have d2 := fits_cell ((unhide M).at 0 _ rfl) 2 _ rfl
           refine Stp.go ?_))
      constructor
      go_wp2_with (
        first
        | (refine wpBuildP (by rfl) #[(0, .tmp 66), (1, .tmp 70), (2, .tmp 72)] (by rfl) #[(0, .int .i64 lx.ep), (1, .int .i64 (lx.be + (j : Int))), (2, .int .i64 lx.re)] (by kernel_rfl) (nx lx j).C (build23p _ _ _ _) ?_
           clear d0 d1 d2
           refine Stp.go ?_))
      constructor
      go_wp2_with (
        first
        | (go_at_call 21
           refine (unhide (Q1 _ ((unhide M).at 1 _ rfl))).mono ?_
           rintro e W62 ⟨rfl, B62, K62⟩
           replace M : Hid (Mm [] w W62 [(b1, 23, lx.C), (bw, 65, Wt.C v4)]) := hide ((unhide M).mut 1 rfl K62 B62)
           clear B62 K62
           refine Stp.go ?_))
      constructor
      go_wp2_with (
        first
        | (go_at_call 11
           refine (num11 _ _).mono ?_
           rintro e W63 ⟨rfl, q63⟩
           replace q63 := q63.symm
           subst q63
           refine Stp.go ?_))
      constructor
      go_wp2_with (
        first
        | (go_at_call 11
           refine (num11 _ _).mono ?_
           rintro e W64 ⟨rfl, q64⟩
           replace q64 := q64.symm
           subst q64
           refine Stp.go ?_))
      constructor
      go_wp2_with (
        first
        | (go_at_call 22
           refine (unhide (Q2 _ ((unhide M).at 1 _ rfl))).mono ?_
           rintro e W65 ⟨rfl, q65⟩
           replace q65 := q65.symm
           subst q65
           refine Stp.go ?_))
      constructor
      go_wp2_with fail
      clear QT Q0 Q1 Q2
      go_roundw
      case rel => exact ⟨j + 1, v4, by omega, by go_num, HN3, M⟩
      case measure => simp [intOf]; omega
theorem lives6 (p : Int) (ao : Option Addr) (c : Nat) (X : List Sp) (lx : Le) (w : World) (hX : StepS w ao X) : Calls Try.prog 6 #[.int .i64 p, .slice ao X.length c, aggV lx.C] w fun e w' => e = .returned (.bool true) ∧ Kept [] w w' := by
  cases hz : sizeOk 3 p with
  | false => exact lives_a p ao _ c lx w hz
  | true =>
    cases hm : lx.may with
    | false => exact lives_b p ao _ c lx w hz hm
    | true =>
      by_cases hb : 1152921504606846976 < lx.be
      · exact lives_c p ao _ c lx w hz hm hb
      · exact lives_d p ao _ c X lx w rfl hX hz hm (by omega)

end Go.Proofs.Ythidiolgngkffaa
