/-
  The walk of the document's Of.
-/
import Derived.Test.YtmeajhdhiebkdaaDoorDvNew
import Derived.Test.YtmeajhdhiebkdaaDoorGx
import Derived.Laws.IdiomCopy

/-
  The walk of Of.
-/
namespace Go.Proofs.YtmeajhdhiebkdaaDoor.Dv
open Go.RowKit

/-- A slice of values of one cell each. -/
structure Vals (w : World) (ao : Option Addr) (m c : Nat) (vs : List Value) : Prop where
  len : vs.length = m
  cap : m ≤ c
  lies : vs ≠ [] → ∃ h off, ao = some ⟨h, off, none⟩ ∧ w.rangeAt h off vs
theorem Vals.kept {w w' : World} {ao : Option Addr} {m c : Nat} {vs : List Value} {X : List Nat} (h : Vals w ao m c vs) (hk : Kept X w w') (ha : Away ao X) : Vals w' ao m c vs := by
  refine ⟨h.len, h.cap, fun hne => ?_⟩
  obtain ⟨b, off, e, hr⟩ := h.lies hne
  exact ⟨b, off, e, fun j v hj => hk.cell (hr j v hj) (ha b off e)⟩

section
variable {o : Oper} {a : Act} {w : World} {K : Act → World → Prop} {Q : Exit → Act → World → Prop}
/-- One operation: copy. -/
theorem wp_copyC (d s : Operand) (dT sT : TypeId) (ho : o.op = .call { callee := .builtin .copy, args := #[d, s], argTypes := #[dT, sT] }) (elem : TypeId) (hu : Tryd.prog.underlying dT = some (.slice elem)) (hsz : (Tryd.prog.info? elem).map (·.size) = some 1)
    (b off dLen dCap : Nat) (ad : Addr) (sLen sCap : Nat) (hd : a.eval d = .slice (some ⟨b, off, none⟩) dLen dCap) (hs : a.eval s = .slice (some ad) sLen sCap) (cs : List Value) (hn : cs.length = Nat.min sLen dLen)
    (hsrc : ∀ j v, cs[j]? = some v → w.cell? (ad.add j) = some v) (hth : w.there b off cs.length) (h1 : ∀ v ∈ cs, v.oneCell' = true) (h : K (a.put o.dst (goInt cs.length)) (w.setCells b off cs)) : o.wp Tryd.prog a w K Q := by
  have hrun := run_copy_cells (P := Tryd.prog) w dT sT o.type elem b off dLen dCap ad sLen sCap cs hu hsz hn hsrc (fun j hj => (hth j hj).1) (fun j hj => (hth j hj).2) h1
  unfold Oper.wp
  simp [execOp, ho, resolve, invoke, builtin, hd, hs, hrun, Result.andThen]
  exact h
theorem step_copyC {ops : Array Oper} {E : Prop} (hgd : o.guard = none) (d s : Operand) (dT sT : TypeId) (ho : o.op = .call { callee := .builtin .copy, args := #[d, s], argTypes := #[dT, sT] }) (elem : TypeId) (hu : Tryd.prog.underlying dT = some (.slice elem)) (hsz : (Tryd.prog.info? elem).map (·.size) = some 1)
    (b off dLen dCap : Nat) (ad : Addr) (sLen sCap : Nat) (hd : a.eval d = .slice (some ⟨b, off, none⟩) dLen dCap) (hs : a.eval s = .slice (some ad) sLen sCap) (cs : List Value) (hn : cs.length = Nat.min sLen dLen)
    (hsrc : ∀ j v, cs[j]? = some v → w.cell? (ad.add j) = some v) (hth : w.there b off cs.length) (h1 : ∀ v ∈ cs, v.oneCell' = true) (h : K (a.put o.dst (goInt cs.length)) (w.setCells b off cs)) :
    if Region.wanted o (yielded ops a.tmps) = true then Oper.wp Tryd.prog o a w K Q else E := by
  rw [if_pos (by simp [Region.wanted, hgd])]
  exact wp_copyC d s dT sT ho elem hu hsz b off dLen dCap ad sLen sCap hd hs cs hn hsrc hth h1 h
theorem wpListCopyC {ops : Array Oper} {rest : List Oper} (hgd : o.guard = none) (d s : Operand) (dT sT : TypeId) (ho : o.op = .call { callee := .builtin .copy, args := #[d, s], argTypes := #[dT, sT] }) (elem : TypeId) (hu : Tryd.prog.underlying dT = some (.slice elem)) (hsz : (Tryd.prog.info? elem).map (·.size) = some 1)
    (b off dLen dCap : Nat) (ad : Addr) (sLen sCap : Nat) (hd : a.eval d = .slice (some ⟨b, off, none⟩) dLen dCap) (hs : a.eval s = .slice (some ad) sLen sCap) (cs : List Value) (hn : cs.length = Nat.min sLen dLen)
    (hsrc : ∀ j v, cs[j]? = some v → w.cell? (ad.add j) = some v) (hth : w.there b off cs.length) (h1 : ∀ v ∈ cs, v.oneCell' = true) (h : wpList Tryd.prog ops Q rest (a.put o.dst (goInt cs.length)) (w.setCells b off cs)) : wpList Tryd.prog ops Q (o :: rest) a w :=
  wpList_plain hgd fun _ hK => wp_copyC d s dT sT ho elem hu hsz b off dLen dCap ad sLen sCap hd hs cs hn hsrc hth h1 (hK _ _ h)
end

theorem Tryd.one5 : (Tryd.prog.info? 5).map (·.size) = some 1 := by kernel_rfl
theorem Tryd.one2 : (Tryd.prog.info? 2).map (·.size) = some 1 := by kernel_rfl

/-- May these be a device's bytes and epochs? -/
def ofB (m : Nat) (eps : List Int) : Bool := eps.all (fun e => decide (0 ≤ e ∧ e ≤ 2147483647)) && decide (m % 64 = 0) && newB (m / 64 : Nat) (eps.length : Nat)
/-- Bytes, cut into sectors. -/
def chunk (l : List Int) (i : Nat) : List Int := (l.drop (i * 64)).take 64
def chunks (k : Nat) (l : List Int) : List (List Int) := (List.range k).map (chunk l)
def ofDev (l eps : List Int) : Dev := ⟨chunks (l.length / 64) l, eps.length, eps ++ List.replicate (8 - eps.length) 0, 0, false, 0, false⟩
/-- The device while its sectors are copied. -/
def midDev (l : List Int) (k N n : Nat) : Dev := ⟨chunks k l ++ noughts (n - k), N, List.replicate 8 0, 0, false, 0, false⟩

theorem chunk_sec {l : List Int} (hl : ∀ x ∈ l, 0 ≤ x ∧ x < 256) {i : Nat} (hi : i * 64 + 64 ≤ l.length) : Sec (chunk l i) :=
  ⟨by simp [chunk]; omega, fun x hx => hl x (List.mem_of_mem_drop (List.mem_of_mem_take hx))⟩
theorem chunks_succ (k : Nat) (l : List Int) : chunks (k + 1) l = chunks k l ++ [chunk l k] := by simp [chunks, List.range_succ]
theorem chunks_len (k : Nat) (l : List Int) : (chunks k l).length = k := by simp [chunks]
theorem mid_len (l : List Int) (k N n : Nat) (h : k ≤ n) : (midDev l k N n).S.length = n := by simp [midDev, chunks_len, noughts_len]; omega
theorem mid_next (l : List Int) (k N n : Nat) (h : k < n) : { midDev l k N n with S := (midDev l k N n).S.set k (chunk l k) } = midDev l (k + 1) N n := by
  simp only [midDev]
  congr 1
  rw [List.set_append_right _ _ (by rw [chunks_len]; exact Nat.le_refl _), chunks_len, Nat.sub_self, chunks_succ]
  have : noughts (n - k) = nought :: noughts (n - (k + 1)) := by
    unfold noughts
    rw [show n - k = (n - (k + 1)) + 1 by omega, List.replicate_succ]
  rw [this]
  simp

theorem Dv.putE {w : World} {b g M m n : Nat} {l eps : List Int} (h : Dv w b g (midDev l M n M)) (hen : eps.length = n) (hn : n ≤ 8) (hE : ∀ x ∈ eps, 0 ≤ x ∧ x ≤ 2147483647) (hm : m = M * 64) (hl : l.length = m) : Dv (w.setCells b 2 (eps.map (Value.int .i64))) b g (ofDev l eps) := by
  have hS : (ofDev l eps).S = (midDev l M n M).S := by
    simp only [ofDev, midDev, Nat.sub_self]
    rw [hl, hm, Nat.mul_div_cancel _ (by decide)]
    simp [noughts]
  have hok := h.ok
  have hOk : (ofDev l eps).Ok := by
    refine ⟨by rw [hS]; exact hok.s0, by rw [hS]; exact hok.s1, by rw [hS]; exact hok.sec, ?_, ?_, ?_, ?_, ⟨by simp [ofDev], by simp [ofDev]⟩⟩
    · have := hok.n0; simp only [midDev] at this; simp only [ofDev]; omega
    · simp only [ofDev]; omega
    · simp [ofDev]; omega
    · intro e he
      rcases List.mem_append.1 he with h1 | h1
      · exact hE e h1
      · rw [List.eq_of_mem_replicate h1]; omega
  obtain ⟨cap, h1, ex, h2, h3⟩ := h.lay
  refine ⟨hOk, h.ne, cap, ?_, ex, ?_, ?_⟩
  · unfold Head at h1 ⊢
    have hsp : List.replicate 8 (0 : Int) = List.replicate n 0 ++ List.replicate (8 - n) 0 := by rw [List.replicate_append_replicate]; congr 1; omega
    have := heap_sets (b := b) (t := 96) (p := (0, 0)) (eps.map (Value.int .i64)) w 2 [.slice (some ⟨g, 0, none⟩) (midDev l M n M).S.length cap, .int .i64 n] ((List.replicate n 0).map (Value.int .i64)) ((List.replicate (8 - n) 0).map (Value.int .i64) ++ [.int .i64 0, .bool false, .int .i64 0, .bool false]) (by rw [h1]; simp only [devCells, midDev]; rw [hsp]; simp; rw [← List.append_assoc, List.replicate_append_replicate]) rfl (by rw [List.length_map, List.length_map, List.length_replicate, hen])
    rw [this]
    simp only [devCells, hS]
    simp [ofDev, hen]
  · rw [sets_ne _ _ _ _ (Ne.symm h.ne), hS]; exact h2
  · rw [hS]; exact h3

set_option maxHeartbeats 2000000 in
set_option maxRecDepth 100000 in
theorem of_yes (ao eo : Option Addr) (m c n ec : Nat) (l eps : List Int) (w : World) (hb : ∀ x ∈ l, 0 ≤ x ∧ x < 256) (hl : Vals w ao m c (u8s l)) (he : Vals w eo n ec (eps.map (Value.int .i64))) (hm : m ≤ 140737488355328) (h : ofB m eps = true) :
    Calls Tryd.prog 26 #[.slice ao m c, .slice eo n ec] w fun e w' => ∃ b g, e = .returned (.tuple #[P0 b, .int .i64 0]) ∧ w.heap.size ≤ b ∧ w.heap.size ≤ g ∧ Dv w' b g (ofDev l eps) ∧ Kept [] w w' := by
  have hlm := hl.len
  rw [u8s_len] at hlm
  have hen := he.len
  rw [List.length_map] at hen
  simp only [ofB, Bool.and_eq_true, List.all_eq_true, decide_eq_true_eq] at h
  obtain ⟨⟨hE, hmod⟩, hnew⟩ := h
  rw [hen] at hnew
  obtain ⟨M, hmM⟩ : ∃ M, m = M * 64 := ⟨m / 64, by omega⟩
  rw [hmM, Nat.mul_div_cancel _ (by decide)] at hnew
  have HM := hide hmM
  have hrem : (m : Int) % 64 = 0 := by omega
  have hquo : (m : Int) / 64 = (M : Int) := by omega
  clear hmM
  have hb0 : (1 ≤ (M : Int) ∧ (M : Int) ≤ 4096) ∧ 1 ≤ (n : Int) ∧ (n : Int) ≤ 8 := by simpa [newB] using hnew
  have HE := hide hE
  have HN := hide (new_yes M n w hnew)
  clear hE hnew hmod
  go_enter Tryd.func26, Tryd.ntmps26
  go_wp2_with fail
  go_loopw [7, 13] (fun _ i wr => ∃ k : Nat, k ≤ n ∧ i = .int .i64 k ∧ wr = w) (fun _ i _ => n - (intOf i).toNat)
  case atStart => exact ⟨0, by omega, rfl, rfl⟩
  case round =>
    obtain ⟨k, hk, rfl, hww⟩ := hrel
    obtain rfl := hww.symm
    by_cases hlt : k < n
    · obtain ⟨e, he1⟩ : ∃ e, eps[k]? = some e := ⟨_, List.getElem?_eq_getElem (by omega)⟩
      obtain ⟨hh, off, rfl, hr⟩ := he.lies (by intro e; simp at e; simp [e] at hen; omega)
      have hce := hr k (.int .i64 e) (by simp [he1])
      have hre := unhide HE e (List.mem_of_getElem? he1)
      have hde : decide (0 ≤ e ∧ e ≤ 2147483647) = true := by simpa using hre
      have hF := from47 0 e 2147483647 w
      rw [hde] at hF
      have HF := hide hF
      clear he1 hr hde hF
      go_wp2_with (go_at_call 44; refine (unhide HF).mono ?_; rintro e w' ⟨rfl, rfl⟩)
      go_roundw
      case rel => exact ⟨k + 1, by omega, by go_num, trivial⟩
      case measure => simp [intOf]; omega
    · go_wp2_with fail
      refine (unhide HN).mono ?_
      rintro e w1 ⟨b, g, rfl, hb1, hg1, hd1, hk1⟩
      obtain ⟨cap1, hh1, _⟩ := hd1.lay
      have hc1 := (hh1.cells hd1.ok).1
      rw [show (newDev M n).S.length = M from noughts_len M] at hc1
      clear hh1
      clear HN hlt
      go_wp2_with fail
      have hD0 : Hid (Dv w1 b g (midDev l 0 n M)) := hd1
      go_loopw [10, 42] (fun _ i w2 => ∃ j : Nat, j ≤ M ∧ i = .int .i64 j ∧ Hid (Dv w2 b g (midDev l j n M)) ∧ Hid (Kept [] w w2)) (fun _ i _ => M - (intOf i).toNat)
      case atStart => exact ⟨0, by omega, rfl, hD0, hk1⟩
      case round =>
        obtain ⟨j, hj, rfl, hDj, hKj⟩ := hrel
        have hdj := unhide hDj
        have hSl := mid_len l j n M hj
        obtain ⟨cap2, hh2, hbd2⟩ := hdj.lay
        have hc2 := (hh2.cells hdj.ok).1
        rw [hSl] at hc2
        by_cases hlt : j < M
        · have hMm := unhide HM
          have hth := hbd2.there hdj.ok.sec j (by rw [hSl]; exact hlt)
          obtain ⟨lh, loff, rfl, hlr⟩ := hl.lies (by intro e; have h9 := congrArg List.length e; rw [u8s_len, List.length_nil] at h9; omega)
          have hlk := hl.cap
          have hcl : (u8s (chunk l j)).length = 64 := by rw [u8s_len]; simp [chunk]; omega
          obtain ⟨q, hq⟩ : ∃ q, q = j * 64 := ⟨_, rfl⟩
          have hsrc : Hid (∀ i v, (u8s (chunk l j))[i]? = some v → wr.cell? ((⟨lh, loff + q, none⟩ : Addr).add i) = some v) := by
            intro i v hi
            have hil : i < 64 := by
              have := (List.getElem?_eq_some_iff.1 hi).1
              rw [hcl] at this; exact this
            rw [Addr.add_mid, Nat.add_assoc]
            refine (unhide hKj).cell (hlr (q + i) v ?_) (by simp)
            rw [← hi, hq]
            simp [u8s, chunk, hil]
          have hj0 : (0 : Int) ≤ (j : Int) := by omega
          have hjM : (j : Int) < (M : Int) := by omega
          have hmul : IntKind.i64.wrap ((j : Int) * 64) = (q : Int) := by rw [IntKind.wrap_i64]; omega
          have hq0 : (0 : Int) ≤ (q : Int) := by omega
          have hqm : (q : Int) ≤ (m : Int) := by omega
          have hmc : (m : Int) ≤ (c : Int) := by omega
          have hqc : ¬ c = q := by omega
          have hmin : Hid (64 = Nat.min (m - q) 64) := by show 64 = min (m - q) 64; omega
          have Hq := hide hq
          have hsec := hide (chunk_sec hb (i := j) (by omega))
          have hput := hide (hdj.drew.putS (k := j) (s := chunk l j) (by rw [hSl]; exact hlt) (unhide hsec))
          have hne := hdj.ne
          clear hMm hlr hq hh2 hbd2 hlk
          go_wp2_with fail
          go_region_held3 (fun w' => w'.cell? ⟨b, 0, none⟩ = some (.slice (some ⟨g, 0, none⟩) M cap2)) (first | (go_keep; done) | exact cell_sets_ne hne (by assumption)) ((refine step_copyC (by rfl) (.tmp 51) (.tmp 55) 54 54 (by rfl) 5 Tryd.underlying54 Tryd.one5 g (j * 64) 64 64 ⟨lh, loff + q, none⟩ (m - q) (c - q) (by rfl) (by rfl) (u8s (chunk l j)) (hcl.trans (unhide hmin)) (unhide hsrc) (by rw [hcl]; exact hth) (u8s_one _) ?_))
          go_wp2_with fail
          go_roundw
          case rel =>
            refine ⟨j + 1, by omega, by go_num, ?_, ?_⟩
            · have h9 := unhide hput
              rw [mid_next l j n M hlt] at h9
              exact h9
            · exact ((unhide hKj).drew).setCells _ _ (by omega)
          case measure => simp [intOf]; omega
        · obtain rfl : j = M := by omega
          obtain ⟨eh, eoff, rfl, her⟩ := he.lies (by intro e; have h9 := congrArg List.length e; rw [List.length_map, List.length_nil] at h9; omega)
          have hce := he.cap
          have hthe : Hid (wr.there b 2 n) := fun i hi => by
            rw [hh2.epoch hdj.ok i (by omega)]
            exact ⟨rfl, hh2.frozen _⟩
          have hsre : Hid (∀ i v, (eps.map (Value.int .i64))[i]? = some v → wr.cell? ((⟨eh, eoff, none⟩ : Addr).add i) = some v) := fun i v hi => by
            rw [Addr.add_mid]; exact (unhide hKj).cell (her i v hi) (by simp)
          have hmn : Hid (n = Nat.min n 8) := by show n = min n 8; omega
          have hle : (eps.map (Value.int .i64)).length = n := by rw [List.length_map]; exact hen
          have hone : ∀ v ∈ eps.map (Value.int .i64), v.oneCell' = true := ints_oneCell _ _
          clear her hh2 hbd2
          have hrun := run_copy_cells (P := Tryd.prog) wr 56 56 3 2 b 2 8 8 ⟨eh, eoff, none⟩ n ec (eps.map (Value.int .i64)) Tryd.underlying56 Tryd.one2 (hle.trans (unhide hmn)) (unhide hsre) (fun i hi => (unhide hthe i (by omega)).1) (fun i hi => (unhide hthe i (by omega)).2) hone
          go_wp2_with fail
          go_ret2
          refine ⟨b, g, rfl, hb1, hg1, ?_, (unhide hKj).setCells _ _ (by omega)⟩
          exact Dv.putE (unhide hDj) hen (by omega) (unhide HE) (unhide HM) hlm

set_option maxHeartbeats 2000000 in
set_option maxRecDepth 100000 in
theorem of_no (ao eo : Option Addr) (m c n ec : Nat) (eps : List Int) (w : World) (he : Vals w eo n ec (eps.map (Value.int .i64))) (hm : m ≤ 140737488355328) (hnn : n ≤ 140737488355328) (h : ofB m eps = false) :
    Calls Tryd.prog 26 #[.slice ao m c, .slice eo n ec] w fun e w' => e = .returned (.tuple #[.pointer none, .int .i64 2]) ∧ w' = w := by
  have hen := he.len
  rw [List.length_map] at hen
  go_enter Tryd.func26, Tryd.ntmps26
  go_wp2_with fail
  go_loopw [7, 13] (fun _ i wr => ∃ k : Nat, k ≤ n ∧ i = .int .i64 k ∧ wr = w ∧ Hid (∀ x ∈ eps.take k, 0 ≤ x ∧ x ≤ 2147483647)) (fun _ i _ => n - (intOf i).toNat)
  case atStart => exact ⟨0, by omega, rfl, rfl, by intro x hx; simp at hx⟩
  case round =>
    obtain ⟨k, hk, rfl, hww, hpre⟩ := hrel
    obtain rfl := hww.symm
    by_cases hlt : k < n
    · obtain ⟨e, he1⟩ : ∃ e, eps[k]? = some e := ⟨_, List.getElem?_eq_getElem (by omega)⟩
      obtain ⟨hh, off, rfl, hr⟩ := he.lies (by intro e; have h9 := congrArg List.length e; rw [List.length_map, List.length_nil] at h9; omega)
      have hce := hr k (.int .i64 e) (by simp [he1])
      have hF := from47 0 e 2147483647 w
      have he2 := hide he1
      clear he1 hr
      by_cases hre : 0 ≤ e ∧ e ≤ 2147483647
      · have hde : decide (0 ≤ e ∧ e ≤ 2147483647) = true := by simpa using hre
        rw [hde] at hF
        have HF := hide hF
        have HR := hide hre
        clear hde hF hre
        go_wp2_with (go_at_call 44; refine (unhide HF).mono ?_; rintro e w' ⟨rfl, rfl⟩)
        go_roundw
        case rel =>
          refine ⟨k + 1, by omega, by go_num, trivial, ?_⟩
          intro x hx
          rw [List.take_add_one, unhide he2] at hx
          rcases List.mem_append.1 hx with h1 | h1
          · exact unhide hpre x h1
          · simp at h1; rw [h1]; exact unhide HR
        case measure => simp [intOf]; omega
      · have hde : decide (0 ≤ e ∧ e ≤ 2147483647) = false := by simpa using hre
        rw [hde] at hF
        have HF := hide hF
        clear hde hF hre
        go_wp2_with (go_at_call 44; refine (unhide HF).mono ?_; rintro e w' ⟨rfl, rfl⟩)
        go_ret2
        exact ⟨rfl, rfl⟩
    · have hall : eps.all (fun e => decide (0 ≤ e ∧ e ≤ 2147483647)) = true := by
        rw [List.all_eq_true]
        intro x hx
        have := unhide hpre x (by rw [List.take_of_length_le (by omega)]; exact hx)
        simpa using this
      simp only [ofB, hall, Bool.true_and, hen] at h
      clear hall hpre
      by_cases h64 : m % 64 = 0
      · have hd : decide (m % 64 = 0) = true := by simpa using h64
        rw [hd, Bool.true_and] at h
        obtain ⟨M, hmM⟩ : ∃ M, m = M * 64 := ⟨m / 64, by omega⟩
        rw [hmM, Nat.mul_div_cancel _ (by decide)] at h
        have hrem : (m : Int) % 64 = 0 := by omega
        have hquo : (m : Int) / 64 = (M : Int) := by omega
        have HN := hide (new_no M n w h)
        clear hmM h hd h64
        go_wp2_with (go_at_call 30; refine (unhide HN).mono ?_; rintro e w' ⟨rfl, rfl⟩)
        go_ret2
        exact ⟨rfl, rfl⟩
      · have hrem : ((m : Int) % 64 != 0) = true := by simp; omega
        clear h
        go_wp2_with fail
        go_ret2
        exact ⟨rfl, rfl⟩

end Go.Proofs.YtmeajhdhiebkdaaDoor.Dv

/-
  The document's device, where it lies, and the walks of its methods that look; does.
-/
namespace Go.Proofs.YtmeajhdhiebkdaaDoor.Dv
open Go.RowKit

/-- What the document's device says of a cut: how many are left, -1: there is none. -/
def Dev.rleft (D : Dev) : Int := if D.set then D.left else -1
def refCells (D : Dev) (sg cap eg ecap : Nat) : Array Value := #[.slice (some ⟨sg, 0, none⟩) D.S.length cap, .slice (some ⟨eg, 0, none⟩) D.N ecap, .int .i64 D.rleft, .bool D.lost, .int .i64 D.done]

/-- The document's device at block r, its sectors at sg, its epochs at eg. -/
structure Rv (w : World) (r sg eg : Nat) (D : Dev) : Prop where
  ok : D.Ok
  ne : r ≠ sg ∧ r ≠ eg ∧ sg ≠ eg
  lay : ∃ cap ecap ex, w.heap[r]? = some (.cells (refCells D sg cap eg ecap) 101 (0, 0)) ∧ Body w sg cap D.S ∧ w.heap[eg]? = some (.cells ((D.E.take D.N).map (Value.int .i64) ++ ex).toArray 2 (0, 0)) ∧ D.N ≤ ecap

theorem Rv.kept {w w' : World} {r sg eg : Nat} {D : Dev} {X : List Nat} (h : Rv w r sg eg D) (hk : Kept X w w') (h1 : r ∉ X) (h2 : sg ∉ X) (h3 : eg ∉ X) : Rv w' r sg eg D := by
  obtain ⟨cap, ecap, ex, a1, ⟨ex', a2, a3⟩, a4⟩ := h.lay
  exact ⟨h.ok, h.ne, cap, ecap, ex, hk.heap a1 h1, ⟨ex', hk.heap a2 h2, a3⟩, hk.heap a4.1 h3, a4.2⟩
theorem Rv.lt {w : World} {r sg eg : Nat} {D : Dev} (h : Rv w r sg eg D) : r < w.heap.size ∧ sg < w.heap.size ∧ eg < w.heap.size := by
  obtain ⟨cap, ecap, ex, a1, ⟨ex', a2, a3⟩, a4⟩ := h.lay
  exact ⟨lt_of_block a1, lt_of_block a2, lt_of_block a4.1⟩
/-- What stands in the head, cell by cell. -/
theorem Rv.cells {w : World} {r sg eg : Nat} {D : Dev} (h : Rv w r sg eg D) : ∃ cap ecap, w.cell? ⟨r, 0, none⟩ = some (.slice (some ⟨sg, 0, none⟩) D.S.length cap) ∧ w.cell? ⟨r, 1, none⟩ = some (.slice (some ⟨eg, 0, none⟩) D.N ecap) ∧ w.cell? ⟨r, 2, none⟩ = some (.int .i64 D.rleft) ∧ w.cell? ⟨r, 3, none⟩ = some (.bool D.lost) ∧ w.cell? ⟨r, 4, none⟩ = some (.int .i64 D.done) ∧ (∀ i, w.frozen? ⟨r, i, none⟩ = false) ∧ Body w sg cap D.S ∧ D.N ≤ ecap := by
  obtain ⟨cap, ecap, ex, a1, a2, a3, a4⟩ := h.lay
  refine ⟨cap, ecap, ?_, ?_, ?_, ?_, ?_, fun i => frozen_of_block a1 i, a2, a4⟩ <;> rw [cell_of_block a1] <;> rfl
theorem Rv.epoch {w : World} {r sg eg : Nat} {D : Dev} (h : Rv w r sg eg D) (k : Nat) (hk : k < D.N) : w.cell? ⟨eg, k, none⟩ = some (.int .i64 (D.ep k)) := by
  obtain ⟨cap, ecap, ex, a1, a2, a3, a4⟩ := h.lay
  have h1 := h.ok.n1
  have h8 := h.ok.e8
  rw [cell_of_block a3, List.getElem?_toArray, List.getElem?_append_left (by simp; omega)]
  simp [Dev.ep, List.getD, hk, show k < D.E.length by omega]
theorem rleft_zero (D : Dev) : D.rleft = 0 ↔ (D.set = true ∧ D.left = 0) := by
  unfold Dev.rleft
  cases D.set <;> simp
theorem rleft_bd {D : Dev} (h : D.Ok) : -1 ≤ D.rleft ∧ D.rleft ≤ 9223372036854775807 := by
  have := h.l0
  unfold Dev.rleft
  split <;> omega

/-- Who may write, of the document's. -/
def Dev.whoR (D : Dev) (x ep : Int) : Int := if hasN D.N x = true ∧ 0 ≤ ep ∧ ep ≤ D.ep x then 0 else 2
end Go.Proofs.YtmeajhdhiebkdaaDoor.Dv

/-
  The walks of the document's device: does, Read, Up, Cut, Whole, Fence.
-/
namespace Go.Proofs.YtmeajhdhiebkdaaDoor.Dv
open Go.RowKit

/-- A cell of the head is written. -/
theorem Rv.put {w : World} {r sg eg i : Nat} {u : Value} {D D' : Dev} (h : Rv w r sg eg D) (hok : D'.Ok) (hS : D'.S = D.S) (hE : D'.E = D.E) (hN : D'.N = D.N) (hc : ∀ cap ecap, refCells D' sg cap eg ecap = (refCells D sg cap eg ecap).setIfInBounds i u) : Rv (w.setCell ⟨r, i, none⟩ u) r sg eg D' := by
  obtain ⟨cap, ecap, ex, a1, ⟨ex', a2, a3⟩, a4, a5⟩ := h.lay
  refine ⟨hok, h.ne, cap, ecap, ex, ?_, ⟨ex', ?_, ?_⟩, ?_, ?_⟩
  · rw [heap_set a1, hc]
  · rw [hS]; exact heap_set_ne a2 (Ne.symm h.ne.1)
  · rw [hS]; exact a3
  · rw [hE, hN]; exact heap_set_ne a4 (Ne.symm h.ne.2.1)
  · rw [hN]; exact a5

/-- One thing is done, its bytes apart: the device, and whether. -/
def Dev.does (D : Dev) : Dev × Bool :=
  if D.set = true ∧ D.left = 0 then ({ D with lost := true }, false) else ({ D with left := if D.set then D.left - 1 else D.left, done := wrap64 (D.done + 1) }, true)
theorem step_does (D : Dev) (S' : List (List Int)) (E' : List Int) : D.step S' E' = if D.does.2 then ({ D.does.1 with S := S', E := E' }, true) else (D.does.1, false) := by
  unfold Dev.step Dev.does
  split <;> simp
theorem does_S (D : Dev) : D.does.1.S = D.S ∧ D.does.1.E = D.E ∧ D.does.1.N = D.N := by unfold Dev.does; split <;> exact ⟨rfl, rfl, rfl⟩

theorem ref_lost (D : Dev) (x : Bool) (sg cap eg ecap : Nat) : refCells { D with lost := x } sg cap eg ecap = (refCells D sg cap eg ecap).setIfInBounds 3 (.bool x) := by simp [refCells, Dev.rleft]
theorem ref_done (D : Dev) (x : Int) (sg cap eg ecap : Nat) : refCells { D with done := x } sg cap eg ecap = (refCells D sg cap eg ecap).setIfInBounds 4 (.int .i64 x) := by simp [refCells, Dev.rleft]
theorem ref_left (D : Dev) (x : Int) (hs : D.set = true) (sg cap eg ecap : Nat) : refCells { D with left := x } sg cap eg ecap = (refCells D sg cap eg ecap).setIfInBounds 2 (.int .i64 x) := by simp [refCells, Dev.rleft, hs]

theorem ref_none (D : Dev) (sg cap eg ecap : Nat) : refCells { D with set := false, left := 0 } sg cap eg ecap = (refCells D sg cap eg ecap).setIfInBounds 2 (.int .i64 (-1)) := by simp [refCells, Dev.rleft]
theorem ref_set (D : Dev) (n : Int) (sg cap eg ecap : Nat) : refCells { D with set := true, left := n } sg cap eg ecap = (refCells D sg cap eg ecap).setIfInBounds 2 (.int .i64 n) := by simp [refCells, Dev.rleft]

theorem Rv.putEp {w : World} {r sg eg k : Nat} {x : Int} {D : Dev} (h : Rv w r sg eg D) (hk : k < D.N) (hx : 0 ≤ x ∧ x ≤ 2147483647) : Rv (w.setCell ⟨eg, k, none⟩ (.int .i64 x)) r sg eg { D with E := D.E.set k x } := by
  obtain ⟨cap, ecap, ex, a1, ⟨ex', a2, a3⟩, a4, a5⟩ := h.lay
  refine ⟨h.ok.epoch k x hx, h.ne, cap, ecap, ex, heap_set_ne a1 h.ne.2.1, ⟨ex', heap_set_ne a2 h.ne.2.2, a3⟩, ?_, a5⟩
  have h1 := h.ok.n1
  have h8 := h.ok.e8
  rw [heap_set a4]
  congr 2
  rw [List.setIfInBounds_toArray, List.set_append_left _ _ (by simp; omega)]
  congr 2
  rw [← List.map_set, List.take_set]

end Go.Proofs.YtmeajhdhiebkdaaDoor.Dv

/-
  The walks of the document's Fence and Read.
-/
namespace Go.Proofs.YtmeajhdhiebkdaaDoor.Dv
open Go.RowKit

theorem who_zero {D : Dev} {x ep : Int} (h : D.whoR x ep = 0) : hasN D.N x = true ∧ 0 ≤ ep ∧ ep ≤ D.ep x := by
  unfold Dev.whoR at h
  split at h
  · assumption
  · simp at h
theorem who_two {D : Dev} {x ep : Int} (h : D.whoR x ep ≠ 0) : D.whoR x ep = 2 ∧ ¬ (hasN D.N x = true ∧ 0 ≤ ep ∧ ep ≤ D.ep x) := by
  unfold Dev.whoR at h ⊢
  split
  · rename_i hc; simp [hc] at h
  · exact ⟨rfl, by assumption⟩
theorem ref_two {D : Dev} {x ep : Int} {may : Bool} (h : may = false ∨ ¬ (hasN D.N x = true ∧ 0 ≤ ep ∧ ep ≤ D.ep x)) : D.ref x ep may = 2 := by
  unfold Dev.ref
  rw [if_neg]
  rintro ⟨h1, h2⟩
  rcases h with h | h
  · rw [h] at h1; cases h1
  · exact h h2
theorem res39 (w : World) (z : Nat) (s : List Int) (e : Int) (tmps : Array Value) (h4 : tmps[4]?.getD undef = .pointer (some ⟨z, 0, none⟩)) (h5 : tmps[5]?.getD undef = .int .i64 e) (hb : Box w z s) : (results Tryd.f46 tmps).run Tryd.prog w = .ok (.tuple #[secV s, .int .i64 e]) w := by
  have := hb.at.loadVar
  simp [results, Tryd.results46, h4, h5, this, asAddr]

theorem Rv.sector {w : World} {r sg eg : Nat} {D : Dev} (h : Rv w r sg eg D) (i : Nat) (hi : i < D.S.length) : At w sg (i * 64) D.S[i] := by
  obtain ⟨cap, ecap, _, _, _, _, _, _, hb, _⟩ := h.cells
  exact ⟨h.ok.sec _ (List.getElem_mem hi), hb.range h.ok.sec i hi, hb.there h.ok.sec i hi⟩
theorem Rv.alloc {w : World} {r sg eg : Nat} {D : Dev} (h : Rv w r sg eg D) (o : Obj) : Rv (w.alloc o) r sg eg D := h.kept (X := []) ((Kept.refl _ _).alloc o) (by simp) (by simp) (by simp)

set_option maxHeartbeats 1000000 in
set_option maxRecDepth 100000 in
theorem r_read (r sg eg : Nat) (D : Dev) (x : Int) (w : World) (h : Rv w r sg eg D) : Calls Tryd.prog 46 #[P0 r, .int .i64 x] w fun e w' => e = .returned (.tuple #[secV (D.read x).1, .int .i64 (D.read x).2]) ∧ Kept [] w w' := by
  have hb0 := hide (Box.new w)
  have hk0 := hide ((Kept.refl [] w).alloc (.cells (u8s nought).toArray 80))
  have hD := h.alloc (.cells (u8s nought).toArray 80)
  obtain ⟨cap, ecap, c0, c1, c2, c3, c4, cf, hb, hec⟩ := hD.cells
  have bad : hasS D.S.length x 1 = false → D.read x = (nought, 2) := by intro hN; simp [Dev.read, hN]
  by_cases h0 : x < 0
  · rw [bad (by simp [hasS]; omega)]
    clear bad
    go_enter Tryd.func46, Tryd.ntmps46
    go_wp2_with (first | (refine wpAllocS rfl rfl ?_) | (refine wpBuildS rfl rfl ?_) | (refine wpStoreS rfl (.tmp 4) (.tmp 20) rfl w.heap.size 0 nought rfl rfl nought_sec (unhide hb0).at.2.2 ?_))
    exact bodyPost_ret (res39 _ w.heap.size nought 2 _ rfl rfl ((unhide hb0).put nought_sec)) rfl ⟨rfl, (unhide hk0).setCells _ _ (by simp)⟩
  · obtain ⟨k, rfl⟩ := Int.eq_ofNat_of_zero_le (show 0 ≤ x by omega)
    by_cases hk : k < D.S.length
    · have hE : D.read k = (D.S[k], 0) := by
        have hN : hasS D.S.length (k : Int) 1 = true := by simp [hasS]; omega
        simp [Dev.read, hN, List.getD, hk]
      rw [hE]
      have hA := hide (hD.sector k hk)
      clear hE bad
      go_enter Tryd.func46, Tryd.ntmps46
      go_wp2_with (first | (refine wpAllocS rfl rfl ?_) | (refine wpLoadS rfl (.tmp 26) rfl sg (k * 64) rfl _ (unhide hA) ?_) | (refine wpStoreS rfl (.tmp 4) (.tmp 27) rfl w.heap.size 0 _ rfl rfl (unhide hA).1 (unhide hb0).at.2.2 ?_))
      exact bodyPost_ret (res39 _ w.heap.size _ 0 _ rfl rfl ((unhide hb0).put (unhide hA).1)) rfl ⟨rfl, (unhide hk0).setCells _ _ (by simp)⟩
    · rw [bad (by simp [hasS]; omega)]
      clear bad
      go_enter Tryd.func46, Tryd.ntmps46
      go_wp2_with (first | (refine wpAllocS rfl rfl ?_) | (refine wpBuildS rfl rfl ?_) | (refine wpStoreS rfl (.tmp 4) (.tmp 20) rfl w.heap.size 0 nought rfl rfl nought_sec (unhide hb0).at.2.2 ?_))
      exact bodyPost_ret (res39 _ w.heap.size nought 2 _ rfl rfl ((unhide hb0).put nought_sec)) rfl ⟨rfl, (unhide hk0).setCells _ _ (by simp)⟩

end Go.Proofs.YtmeajhdhiebkdaaDoor.Dv

/-
  The walk of the document's New.
-/
namespace Go.Proofs.YtmeajhdhiebkdaaDoor.Dv
open Go.RowKit

theorem Tryd.zero2 : (Tryd.prog.info? 2).map (fun i => (i.zero, i.size, i.bytes)) = some (some (.int .i64 0), 1, 8) := by kernel_rfl
theorem made_zeros (n : Nat) : madeCells #[Value.int .i64 0] n = Array.replicate n (Value.int .i64 0) := by
  have := made_same 1 (Value.int .i64 0) n (by decide)
  simpa using this

theorem run_makeS (w : World) (n : Nat) (hn : n ≤ 2199023255552) : Sem.run Tryd.prog (Instr.makeSlice 85 (.int .i64 n) (.int .i64 n)) w = .ok (.slice (some ⟨w.heap.size, 0, none⟩) n n) (w.alloc (.cells (u8s (noughts n).flatten).toArray 80)) := by
  obtain ⟨i0, hi, hz0, hz1, hz2⟩ := info_parts Tryd.zero38
  have hr := run_make (P := Tryd.prog) w 85 80 i0 (secV nought) Tryd.underlying85 hi hz0 .i64 .i64 n n (by omega) (by omega) (by rw [hz2]; omega) (by omega)
  have hc : (secV nought).cells = (u8s nought).toArray := rfl
  rw [hz1, Int.toNat_natCast, hc, made_noughts] at hr
  exact hr
theorem run_makeE (w : World) (n : Nat) (hn : n ≤ 2199023255552) : Sem.run Tryd.prog (Instr.makeSlice 56 (.int .i64 n) (.int .i64 n)) w = .ok (.slice (some ⟨w.heap.size, 0, none⟩) n n) (w.alloc (.cells (Array.replicate n (Value.int .i64 0)) 2)) := by
  obtain ⟨i0, hi, hz0, hz1, hz2⟩ := info_parts Tryd.zero2
  have hr := run_make (P := Tryd.prog) w 56 2 i0 (.int .i64 0) Tryd.underlying56 hi hz0 .i64 .i64 n n (by omega) (by omega) (by rw [hz2]; omega) (by omega)
  have hc : (Value.int .i64 0).cells = #[Value.int .i64 0] := rfl
  rw [hz1, Int.toNat_natCast, hc, Nat.mul_one, made_zeros] at hr
  exact hr

theorem r_new_no (x y : Int) (w : World) (h : newB x y = false) : Calls Tryd.prog 45 #[.int .i64 x, .int .i64 y] w fun e w' => e = .returned (.pointer none) ∧ w' = w := by
  have h' : ¬ ((1 ≤ x ∧ x ≤ 4096) ∧ 1 ≤ y ∧ y ≤ 8) := by simpa [newB] using h
  clear h
  go_enter Tryd.func45, Tryd.ntmps45
  go_wp2_with fail
  all_goals first | (go_ret; exact ⟨rfl, rfl⟩) | (exfalso; omega)

theorem take_zeros {N : Nat} (h : N ≤ 8) : (List.replicate 8 (0 : Int)).take N = List.replicate N 0 := by
  rw [List.take_replicate, Nat.min_eq_left h]

theorem rv_new {w : World} {n N r sg eg : Nat} (hn : 1 ≤ n ∧ n ≤ 4096) (hN : 1 ≤ N ∧ N ≤ 8) (hne : r ≠ sg ∧ r ≠ eg ∧ sg ≠ eg)
    (h1 : w.heap[r]? = some (.cells #[.slice (some ⟨sg, 0, none⟩) n n, .slice (some ⟨eg, 0, none⟩) N N, .int .i64 (-1), .bool false, .int .i64 0] 101 (0, 0)))
    (h2 : w.heap[sg]? = some (.cells (u8s (noughts n).flatten).toArray 80 (0, 0))) (h3 : w.heap[eg]? = some (.cells (Array.replicate N (Value.int .i64 0)) 2 (0, 0))) : Rv w r sg eg (newDev n N) := by
  refine ⟨newDev_ok hn hN, hne, n, N, [], ?_, ⟨[], ?_, ?_, ?_, ?_⟩, ?_, Nat.le_refl _⟩
  · rw [h1]; simp [refCells, newDev, noughts_len, Dev.rleft]
  · rw [List.append_nil]; exact h2
  · simp [newDev, noughts_len]
  · simp [newDev, noughts_len]
  · unfold maxLen; omega
  · rw [h3]
    simp only [newDev, take_zeros hN.2, List.append_nil, List.map_replicate]
    simp

set_option maxHeartbeats 1000000 in
set_option maxRecDepth 100000 in
theorem r_new_yes (n N : Nat) (w : World) (h : newB n N = true) : Calls Tryd.prog 45 #[.int .i64 n, .int .i64 N] w fun e w' => ∃ r sg eg, e = .returned (P0 r) ∧ w.heap.size ≤ r ∧ w.heap.size ≤ sg ∧ w.heap.size ≤ eg ∧ Rv w' r sg eg (newDev n N) ∧ Kept [] w w' := by
  have h' : (1 ≤ (n : Int) ∧ (n : Int) ≤ 4096) ∧ 1 ≤ (N : Int) ∧ (N : Int) ≤ 8 := by simpa [newB] using h
  have a1 := h'.1.1
  have a2 := h'.1.2
  have a3 := h'.2.1
  have a4 := h'.2.2
  clear h h'
  go_enter Tryd.func45, Tryd.ntmps45
  go_wp2_with fail
  have m1 := run_makeS w.drew n (by omega)
  have m2 := run_makeE w.drew N (by omega)
  have m3 := run_makeE (w.alloc (.cells (u8s (noughts n).flatten).toArray 80)).drew N (by omega)
  have m4 := run_makeS (w.alloc (.cells (Array.replicate N (Value.int .i64 0)) 2)).drew n (by omega)
  go_region
  all_goals (clear m1 m2 m3 m4; go_wp2_with fail)
  · go_ret
    refine ⟨w.heap.size + 1 + 1, w.heap.size, w.heap.size + 1, rfl, by omega, by omega, by omega, rv_new (by omega) (by omega) (by omega) ?_ ?_ ?_, ((((Kept.refl _ _).alloc _).alloc _).alloc _).drew⟩
    · exact heap_new (by simp)
    · exact heap_alloc_old (heap_alloc_old (heap_new rfl))
    · exact heap_alloc_old (heap_new (by simp))
  · go_ret
    refine ⟨w.heap.size + 1 + 1, w.heap.size + 1, w.heap.size, rfl, by omega, by omega, by omega, rv_new (by omega) (by omega) (by omega) ?_ ?_ ?_, ((((Kept.refl _ _).alloc _).alloc _).alloc _).drew⟩
    · exact heap_new (by simp)
    · exact heap_alloc_old (heap_new (by simp))
    · exact heap_alloc_old (heap_alloc_old (heap_new rfl))

end Go.Proofs.YtmeajhdhiebkdaaDoor.Dv

/-
  Tables for regions in which slices of bytes are made.
-/
namespace Go.Proofs.YtmeajhdhiebkdaaDoor.Dv
open Go.RowKit

/-- A slice that has these bytes. -/
def RowAt (w : World) (v : Value) (l : List Int) : Prop := ∃ ao c, v = .slice ao l.length c ∧ (l ≠ [] → ∃ h off, ao = some ⟨h, off, none⟩ ∧ w.rangeAt h off (u8s l))
theorem RowAt.kept {w w' : World} {v : Value} {l : List Int} (h : RowAt w v l) (hk : Kept [] w w') : RowAt w' v l := by
  obtain ⟨ao, c, e, hl⟩ := h
  refine ⟨ao, c, e, fun hne => ?_⟩
  obtain ⟨b, off, ea, hr⟩ := hl hne
  exact ⟨b, off, ea, fun j u hj => hk.cell (hr j u hj) (by simp)⟩
/-- What is known of an operation's value. -/
inductive Fr
  | is (u : Value)
  | no
  | row (l : List Int)
def Fr.at (v : Value) (w : World) : Fr → Prop
  | .is u => v = u
  | .no => v = undef
  | .row l => RowAt w v l
def tr (us : List Fr) (j : Nat) (v : Value) (w : World) : Prop := match us[j]? with
  | some f => f.at v w
  | none => True
theorem tr_kept (us : List Fr) : ∀ j v w w', tr us j v w → Kept [] w w' → tr us j v w' := by
  intro j v w w' h hk
  unfold tr at h ⊢
  cases hf : us[j]? with
  | none => trivial
  | some f =>
    rw [hf] at h
    cases f with
    | is u => exact h
    | no => exact h
    | row l => exact RowAt.kept h hk
def skipR (us : List Fr) (j : Nat) : Bool := match us[j]? with
  | some .no => true
  | _ => false
def guardsR (ops : Array Oper) (us : List Fr) : Bool := (List.range ops.size).all (fun j => match ops[j]? with
  | none => false
  | some o => match o.guard with
    | none => !skipR us j
    | some (i, b) => match us[i]? with
      | some (.is (.bool c)) => if c == b then !skipR us j else skipR us j
      | some .no => skipR us j
      | _ => false)
theorem guardsR_some {ops : Array Oper} {us : List Fr} (h : guardsR ops us = true) : ∀ (j : Nat) (o : Oper) (i : Nat) (b : Bool), ops[j]? = some o → o.guard = some (i, b) → (skipR us j = false ∧ ∀ v w, tr us i v w → v = .bool b) ∨ (skipR us j = true ∧ ∀ v w, tr us i v w → v ≠ .bool b) := by
  intro j o i b ho hg
  have := (List.all_eq_true.1 h) j (List.mem_range.2 (Array.getElem?_eq_some_iff.1 ho).1)
  simp only [ho, hg] at this
  unfold tr
  cases hfi : us[i]? with
  | none => rw [hfi] at this; simp at this
  | some f =>
    rw [hfi] at this
    cases f with
    | no =>
      refine .inr ⟨by simpa using this, fun v w hv => ?_⟩
      have : v = undef := hv
      rw [this]
      simp [undef]
    | row l => simp at this
    | is u =>
      cases u <;> first | (simp at this; done) | skip
      rename_i c
      by_cases hcb : c = b
      · subst hcb
        refine .inl ⟨by simpa using this, fun v w hv => hv⟩
      · refine .inr ⟨?_, fun v w hv => ?_⟩
        · have hne : (c == b) = false := beq_eq_false_iff_ne.2 hcb
          simpa [hne] using this
        · have hv' : v = .bool c := hv
          rw [hv']
          intro e
          exact hcb (by cases e; rfl)
theorem guardsR_none {ops : Array Oper} {us : List Fr} (h : guardsR ops us = true) : ∀ (j : Nat) (o : Oper), ops[j]? = some o → o.guard = none → skipR us j = false := by
  intro j o ho hg
  have := (List.all_eq_true.1 h) j (List.mem_range.2 (Array.getElem?_eq_some_iff.1 ho).1)
  simp only [ho, hg] at this
  simpa using this
theorem skipR_undef {us : List Fr} {j : Nat} (w : World) (h : skipR us j = true) : tr us j undef w := by
  unfold skipR at h
  unfold tr
  split at h
  · next hf => rw [hf]; rfl
  · cases h
theorem tr_is (us : List Fr) (j : Nat) (v : Value) (w : World) (hv : us[j]? = some (.is v)) : tr us j v w := by
  unfold tr; rw [hv]; rfl
theorem is_tr {us : List Fr} {j : Nat} {v u : Value} {w : World} (h : tr us j v w) (hv : us[j]? = some (.is u)) : v = u := by
  unfold tr at h; rw [hv] at h; exact h
theorem tr_row (us : List Fr) (j : Nat) (v : Value) (w : World) (l : List Int) (hv : us[j]? = some (.row l)) (h : RowAt w v l) : tr us j v w := by
  unfold tr; rw [hv]; exact h
theorem row_tr {us : List Fr} {j : Nat} {v : Value} {w : World} {l : List Int} (h : tr us j v w) (hv : us[j]? = some (.row l)) : RowAt w v l := by
  unfold tr at h; rw [hv] at h; exact h
/-- The values of a table; x: those that are not told. -/
def valsR (x : Nat → Value) : Nat → List Fr → List Value
  | _, [] => []
  | i, .is u :: fs => u :: valsR x (i + 1) fs
  | i, .no :: fs => undef :: valsR x (i + 1) fs
  | i, .row _ :: fs => x i :: valsR x (i + 1) fs
theorem vs_tr (us : List Fr) (w : World) : ∀ (vs : List Value) (k : Nat) (fs : List Fr), (∀ (j : Nat) f, fs[j]? = some f → us[k + j]? = some f) → (∀ (j : Nat) v, vs[j]? = some v → tr us (k + j) v w) → vs.length = fs.length → ∃ x : Nat → Value, ∀ y : Nat → Value, (∀ i, k ≤ i → y i = x i) → vs = valsR y k fs := by
  intro vs
  induction vs with
  | nil =>
    intro k fs _ _ hl
    obtain rfl : fs = [] := List.length_eq_zero_iff.1 hl.symm
    exact ⟨fun _ => undef, fun _ _ => rfl⟩
  | cons v vs ih =>
    intro k fs hf hv hl
    cases fs with
    | nil => simp at hl
    | cons f fs =>
      obtain ⟨x, hx⟩ := ih (k + 1) fs (fun j g hg => by have := hf (j + 1) g (by simpa using hg); rwa [show k + (j + 1) = k + 1 + j by omega] at this) (fun j u hu => by have := hv (j + 1) u (by simpa using hu); rwa [show k + (j + 1) = k + 1 + j by omega] at this) (by simpa using hl)
      have h0 := hv 0 v rfl
      have f0 := hf 0 f rfl
      rw [Nat.add_zero] at h0 f0
      unfold tr at h0
      rw [f0] at h0
      refine ⟨fun i => if i = k then v else x i, fun y hy0 => ?_⟩
      have hy : ∀ i, k ≤ i → y i = if i = k then v else x i := hy0
      have hy' := hx y (fun i hi => by have := hy i (by omega); rwa [if_neg (by omega)] at this)
      cases f with
      | is u =>
        have h0 : v = u := h0
        subst h0
        rw [hy']; rfl
      | no =>
        have h0 : v = undef := h0
        subst h0
        rw [hy']; rfl
      | row l =>
        have := hy k (Nat.le_refl _)
        rw [if_pos rfl] at this
        subst this
        show y k :: vs = y k :: valsR y (k + 1) fs
        rw [← hy']
/-- A region that draws its order, by its table. -/
theorem wpAny_tr {ops : Array Oper} {Q : Exit → Act → World → Prop} {a0 : Act} {w0 : World} (n : Nat) (hn : ops.size = n) (hok : prefG ops n = true) (us : List Fr) (hu : us.length = n) (hg : guardsR ops us = true)
    (hsl : ops.all (fun o => match o.dst with | none => true | some t => decide (t < a0.tmps.size)) = true)
    (hop : ∀ (j : Nat) (o : Oper), j < n → skipR us j = false → ops[j]? = some o → ∀ a w, (∀ t : Nat, (ops.toList.take n).all (fun p => p.dst != some t) = true → a.eval (.tmp t) = a0.eval (.tmp t)) →
      (∀ (i t : Nat), o.after.any (fun e => Region.binds .any e && e.on == i) = true → ops[i]?.bind (·.dst) = some t → tr us i (a.eval (.tmp t)) w) → Kept [] w0 w →
      o.wp Tryd.prog a w (fun a' w' => ∃ v, a' = a.put o.dst v ∧ tr us j v w' ∧ Kept [] w w' ∧ ∀ i u, i < n → i ≠ j → tr us i u w → True) Q)
    (hQ : ∀ x w, Kept [] w0 w → wpAny Tryd.prog .any ops Q 0 (lists n (n + 0)) (putAll a0 (ops.toList.take n) (valsR x 0 us)) w) :
    wpAny Tryd.prog .any ops Q ops.size (Array.replicate ops.size false) a0 w0 := by
  refine wpAny_prefS n 0 (by omega) hok (tr us) (fun _ _ _ _ => True) (skipR us) (fun j o i b _ ho hg' => guardsR_some hg j o i b ho hg') (fun j o _ ho hg' => guardsR_none hg j o ho hg') (fun j w h => skipR_undef w h) (fun _ _ _ _ => trivial) (tr_kept us) hsl hop ?_
  intro vs w hlen hv _ hk
  obtain ⟨x, hx⟩ := vs_tr us w vs 0 us (fun j f h => by simpa using h) (fun j v h => by have := hv j v h; simpa using this) (by omega)
  rw [hx x (fun _ _ => rfl)]
  exact hQ x w hk
/-- A region in the text's order, by its table. -/
theorem wp_text_tq {id : Nat} {ops : Array Oper} {Q : Exit → Act → World → Prop} {a0 : Act} {w0 : World} (n : Nat) (hn : ops.size = n) (hok : prefG ops n = true) (us : List (Option Value)) (hu : us.length = n) (hg : guardsQ ops us = true)
    (hsl : ops.all (fun o => match o.dst with | none => true | some t => decide (t < a0.tmps.size)) = true)
    (hop : ∀ (j : Nat) (o : Oper), j < n → skipQ us j = false → ops[j]? = some o → ∀ a w, (∀ t : Nat, (ops.toList.take n).all (fun p => p.dst != some t) = true → a.eval (.tmp t) = a0.eval (.tmp t)) →
      (∀ (i t : Nat), o.after.any (fun e => Region.binds .any e && e.on == i) = true → ops[i]?.bind (·.dst) = some t → tq us i (a.eval (.tmp t)) w) → Kept [] w0 w →
      o.wp Tryd.prog a w (fun a' w' => ∃ v, a' = a.put o.dst v ∧ tq us j v w' ∧ Kept [] w w' ∧ ∀ i u, i < n → i ≠ j → tq us i u w → True) Q)
    (hQ : ∀ w, Kept [] w0 w → Q .normal (putAll a0 (ops.toList.take n) (valsQ us)) w) : (Code.region id ops false).wp Tryd.prog Q a0 w0 := by
  refine wp_region_text n hn hok (tq us) (fun _ _ _ _ => True) (skipQ us) (fun j o i b _ ho hg' => guardsQ_some hg j o i b ho hg') (fun j o _ ho hg' => guardsQ_none hg j o ho hg') (fun j w h => skipQ_undef w h) (fun _ _ _ _ => trivial) (tq_kept us) hsl hop ?_
  intro vs w hlen hv hk
  obtain rfl := vs_tq hv (by omega)
  exact hQ w hk
/-- Bytes that were made, as a slice that has them. -/
theorem owns_rowAt {w : World} {base : Nat} {v : Value} {l : List Int} (h : w.ownsRow base 5 1 v l.length (u8s l)) : RowAt w v l := by
  rcases h.2 with ⟨h1, h2⟩ | ⟨g, cap, cur, h1, h2, h3, h4, h5, h6, h7⟩
  · exact ⟨none, 0, by rw [h1, h2], fun hne => absurd (List.length_eq_zero_iff.1 h2) hne⟩
  · refine ⟨_, cap, h1, fun _ => ⟨g, 0, rfl, fun k u hk => ?_⟩⟩
    rw [Nat.zero_add, cell_of_block h3, ← Array.getElem?_toList]
    rw [← h7, List.getElem?_take] at hk
    split at hk
    · exact hk
    · cases hk
theorem conv42 {w : World} {v : Value} {l : List Int} (h : RowAt w v l) : (convert 54 9 v).run Tryd.prog w = .ok (.string (strOfNums l)) w := by
  obtain ⟨ao, c, rfl, hl⟩ := h
  by_cases h0 : l = []
  · subst h0
    cases ao with
    | none => exact run_convert_bytes_nil (P := Tryd.prog) w 54 5 Tryd.underlying54 Tryd.underlying5 0 c 9 Tryd.underlying9
    | some a =>
      have hl := run_loadCells_list (P := Tryd.prog) w a [] (fun j v hj => by simp at hj)
      have := run_bytesToString (P := Tryd.prog) w a 0 c [] (by simpa using hl)
      rw [show ([] : List Int).length = 0 from rfl, run_convert_bytes_string w 54 9 5 _ 0 c Tryd.underlying54 Tryd.underlying5 Tryd.underlying9, this]
      rfl
  · obtain ⟨b, off, rfl, hr⟩ := hl h0
    refine run_convert_bytes_arg (P := Tryd.prog) w 54 5 Tryd.underlying54 Tryd.underlying5 b off l.length c l rfl ?_ 9 Tryd.underlying9
    intro i hi
    exact hr i (.int .u8 (l.getD i 0)) (by simp [u8s, List.getD, hi])
section
variable {o : Oper} {a : Act} {w : World} {K : Act → World → Prop} {Q : Exit → Act → World → Prop}
theorem o_conv42 (x : Operand) (ho : o.op = .convert 54 9 x) (l : List Int) (hx : RowAt w (a.eval x) l) (h : K (a.put o.dst (.string (strOfNums l))) w) : o.wp Tryd.prog a w K Q := by
  unfold Oper.wp execOp
  simp only [ho, Sem.run_bind, conv42 hx, Result.andThen_ok]
  exact h
theorem o_neq9s (x y : Operand) (ho : o.op = .binOp .neq 9 x y 9) (s : ByteArray) (hx : a.eval x = .string s) (hy : a.eval y = .string s) (h : K (a.put o.dst (.bool false)) w) : o.wp Tryd.prog a w K Q := by
  unfold Oper.wp execOp
  simp only [ho, hx, hy]
  simp [go_sem]
  exact h
end

end Go.Proofs.YtmeajhdhiebkdaaDoor.Dv

/-
  What the document's Of needs.
-/
namespace Go.Proofs.YtmeajhdhiebkdaaDoor.Dv
open Go.RowKit

/-- A region that draws its order, by its table; its last operation apart. -/
theorem wpAny_tq1 {ops : Array Oper} {Q : Exit → Act → World → Prop} {a0 : Act} {w0 : World} (n : Nat) (hn : ops.size = n + 1) (hok : prefG ops n = true) (us : List (Option Value)) (hu : us.length = n) (hg : guardsQ ops us = true)
    (hsl : ops.all (fun o => match o.dst with | none => true | some t => decide (t < a0.tmps.size)) = true)
    (hop : ∀ (j : Nat) (o : Oper), j < n → skipQ us j = false → ops[j]? = some o → ∀ a w, (∀ t : Nat, (ops.toList.take n).all (fun p => p.dst != some t) = true → a.eval (.tmp t) = a0.eval (.tmp t)) →
      (∀ (i t : Nat), o.after.any (fun e => Region.binds .any e && e.on == i) = true → ops[i]?.bind (·.dst) = some t → tq us i (a.eval (.tmp t)) w) → Kept [] w0 w →
      o.wp Tryd.prog a w (fun a' w' => ∃ v, a' = a.put o.dst v ∧ tq us j v w' ∧ Kept [] w w' ∧ ∀ i u, i < n → i ≠ j → tq us i u w → True) Q)
    (hQ : ∀ w, Kept [] w0 w → wpAny Tryd.prog .any ops Q 1 (lists n (n + 1)) (putAll a0 (ops.toList.take n) (valsQ us)) w) :
    wpAny Tryd.prog .any ops Q ops.size (Array.replicate ops.size false) a0 w0 := by
  refine wpAny_prefS n 1 (by omega) hok (tq us) (fun _ _ _ _ => True) (skipQ us) (fun j o i b _ ho hg' => guardsQ_some hg j o i b ho hg') (fun j o _ ho hg' => guardsQ_none hg j o ho hg') (fun j w h => skipQ_undef w h) (fun _ _ _ _ => trivial) (tq_kept us) hsl hop ?_
  intro vs w hlen hv _ hk
  obtain rfl := vs_tq hv (by omega)
  exact hQ w hk
section
variable {o : Oper} {a : Act} {w : World} {K : Act → World → Prop} {Q : Exit → Act → World → Prop}
theorem o_store2 (x y : Operand) (ho : o.op = .store 2 x y) (p : Addr) (v : Int) (u : Value) (hx : a.eval x = .pointer (some p)) (hy : a.eval y = .int .i64 v) (hc : w.cell? p = some u) (hf : w.frozen? p = false) (h : K (a.put o.dst undef) (w.setCell p (.int .i64 v))) : o.wp Tryd.prog a w K Q := by
  unfold Oper.wp execOp
  simp only [ho, hx, hy]
  simp [go_sem, hc, hf]
  exact h
theorem o_store5 (x y : Operand) (ho : o.op = .store 5 x y) (p : Addr) (v : Int) (u : Value) (hx : a.eval x = .pointer (some p)) (hy : a.eval y = .int .u8 v) (hc : w.cell? p = some u) (hf : w.frozen? p = false) (h : K (a.put o.dst undef) (w.setCell p (.int .u8 v))) : o.wp Tryd.prog a w K Q := by
  unfold Oper.wp execOp
  simp only [ho, hx, hy]
  simp [go_sem, hc, hf]
  exact h
theorem o_idx43 (x y : Operand) (ho : o.op = .indexAddr 56 x y) (g off m c k : Nat) (hk : k < m) (hx : a.eval x = .slice (some ⟨g, off, none⟩) m c) (hy : a.eval y = .int .i64 k) (h : K (a.put o.dst (.pointer (some ⟨g, off + k, none⟩))) w) : o.wp Tryd.prog a w K Q := by
  unfold Oper.wp execOp
  simp only [ho, hx, hy]
  simp [go_sem, hk]
  exact h
theorem o_idx42 (x y : Operand) (ho : o.op = .indexAddr 54 x y) (g off m c k : Nat) (hk : k < m) (hx : a.eval x = .slice (some ⟨g, off, none⟩) m c) (hy : a.eval y = .int .i64 k) (h : K (a.put o.dst (.pointer (some ⟨g, off + k, none⟩))) w) : o.wp Tryd.prog a w K Q := by
  unfold Oper.wp execOp
  simp only [ho, hx, hy]
  simp [go_sem, hk]
  exact h
theorem o_idxS (x y : Operand) (ho : o.op = .indexAddr 85 x y) (g m c k : Nat) (hk : k < m) (hx : a.eval x = .slice (some ⟨g, 0, none⟩) m c) (hy : a.eval y = .int .i64 k) (h : K (a.put o.dst (.pointer (some ⟨g, k * 64, none⟩))) w) : o.wp Tryd.prog a w K Q := by
  unfold Oper.wp execOp
  simp only [ho, hx, hy]
  simp [go_sem, hk]
  exact h
theorem o_idx38 (x y : Operand) (ho : o.op = .indexAddr 80 x y) (g off k : Nat) (hk0 : k < 64) (hx : a.eval x = .pointer (some ⟨g, off, none⟩)) (hy : a.eval y = .int .i64 k) (h : K (a.put o.dst (.pointer (some ⟨g, off + k, none⟩))) w) : o.wp Tryd.prog a w K Q := by
  have hk : (k : Int) < 64 := by omega
  unfold Oper.wp execOp
  simp only [ho, hx, hy]
  simp [go_sem, hk]
  exact h
theorem o_quo64 (x : Operand) (ho : o.op = .binOp .quo 3 x (.const (.int .i64 64)) 3) (c : Int) (hc : 0 ≤ c ∧ c ≤ 1000000) (hx : a.eval x = .int .i64 c) (h : K (a.put o.dst (.int .i64 (c / 64))) w) : o.wp Tryd.prog a w K Q := by
  have h1 : c.tdiv 64 = c / 64 := Int.tdiv_eq_ediv_of_nonneg hc.1
  have hw : IntKind.i64.wrap (c / 64) = c / 64 := by rw [IntKind.wrap_i64]; omega
  unfold Oper.wp execOp
  simp only [ho, hx]
  simp [go_sem, h1, hw]
  exact h
theorem o_rem64 (x : Operand) (ho : o.op = .binOp .rem 3 x (.const (.int .i64 64)) 3) (c : Int) (hc : 0 ≤ c ∧ c ≤ 1000000) (hx : a.eval x = .int .i64 c) (h : K (a.put o.dst (.int .i64 (c % 64))) w) : o.wp Tryd.prog a w K Q := by
  have h1 : c.tmod 64 = c % 64 := Int.tmod_eq_emod_of_nonneg hc.1
  unfold Oper.wp execOp
  simp only [ho, hx]
  simp [go_sem, h1]
  exact h
end
/-- The document's device while its epochs are laid. -/
def eDev (n : Nat) (eps : List Int) (k : Nat) : Dev := ⟨noughts n, eps.length, eps.take k ++ List.replicate (8 - k) 0, 0, false, 0, false⟩
theorem eDev_zero (n : Nat) (eps : List Int) : eDev n eps 0 = newDev n eps.length := by simp [eDev, newDev]
theorem eDev_succ (n : Nat) (eps : List Int) (k : Nat) (hk : k < eps.length) (h8 : eps.length ≤ 8) : { eDev n eps k with E := (eDev n eps k).E.set k eps[k] } = eDev n eps (k + 1) := by
  simp only [eDev]
  congr 1
  have hl : (eps.take k).length = k := by simp; omega
  rw [List.set_append_right _ _ (by omega), hl, Nat.sub_self, show 8 - k = (8 - (k + 1)) + 1 by omega, List.replicate_succ, List.set_cons_zero, List.take_succ_eq_append_getElem hk, List.append_assoc]
  rfl
/-- The document's device while its bytes are laid. -/
def bDev (n : Nat) (l eps : List Int) (k : Nat) : Dev := ⟨chunks n (l.take k ++ List.replicate (n * 64 - k) 0), eps.length, eps ++ List.replicate (8 - eps.length) 0, 0, false, 0, false⟩
theorem chunk_noughts (n i : Nat) (h : i < n) : chunk (List.replicate (n * 64) 0) i = nought := by
  have : min 64 (n * 64 - i * 64) = 64 := by omega
  simp [chunk, nought, this]
theorem chunks_noughts (n : Nat) : chunks n (List.replicate (n * 64) 0) = noughts n := by
  apply List.ext_getElem (by simp [chunks_len, noughts_len])
  intro i h1 h2
  rw [chunks_len] at h1
  simp [chunks, noughts, chunk_noughts n i h1]
theorem chunks_flat : ∀ (n : Nat) (L : List Int), n * 64 ≤ L.length → (chunks n L).flatten = L.take (n * 64) := by
  intro n
  induction n with
  | zero => intro L _; simp [chunks]
  | succ n ih =>
    intro L hL
    rw [chunks_succ, List.flatten_append, ih L (by omega)]
    simp only [List.flatten_cons, List.flatten_nil, List.append_nil, chunk]
    rw [← List.take_add]
    congr 1
    omega
theorem bDev_zero (n : Nat) (l eps : List Int) : bDev n l eps 0 = eDev n eps eps.length := by
  simp [bDev, eDev, chunks_noughts]
theorem bDev_end (n : Nat) (l eps : List Int) (hl : l.length = n * 64) : bDev n l eps (n * 64) = ofDev l eps := by
  have : l.take (n * 64) = l := List.take_of_length_le (by omega)
  simp [bDev, ofDev, this, hl]
theorem mid_flat (n : Nat) (l : List Int) (k : Nat) (hk : k ≤ n * 64) (hl : l.length = n * 64) : (chunks n (l.take k ++ List.replicate (n * 64 - k) 0)).flatten = l.take k ++ List.replicate (n * 64 - k) 0 := by
  rw [chunks_flat _ _ (by simp; omega), List.take_of_length_le (by simp; omega)]
theorem bDev_ok {n : Nat} {l eps : List Int} {k : Nat} (hn : 1 ≤ n ∧ n ≤ 4096) (hN : 1 ≤ eps.length ∧ eps.length ≤ 8) (hk : k ≤ n * 64) (hl : l.length = n * 64) (hb : ∀ x ∈ l, 0 ≤ x ∧ x < 256) (hE : ∀ x ∈ eps, 0 ≤ x ∧ x ≤ 2147483647) : (bDev n l eps k).Ok := by
  refine ⟨by simp [bDev, chunks_len]; omega, by simp [bDev, chunks_len]; omega, ?_, hN.1, hN.2, by simp [bDev]; omega, ?_, ⟨by simp [bDev], by simp [bDev]⟩⟩
  · intro s hs
    obtain ⟨i, hi, rfl⟩ := List.mem_map.1 hs
    rw [List.mem_range] at hi
    refine chunk_sec ?_ (by simp; omega)
    intro x hx
    rcases List.mem_append.1 hx with h | h
    · exact hb x (List.mem_of_mem_take h)
    · rw [List.eq_of_mem_replicate h]; omega
  · intro e he
    rcases List.mem_append.1 he with h | h
    · exact hE e h
    · rw [List.eq_of_mem_replicate h]; omega
theorem Rv.putByte {w : World} {r sg eg n k : Nat} {l eps : List Int} {x : Int} (h : Rv w r sg eg (bDev n l eps k)) (hk : k < n * 64) (hl : l.length = n * 64) (hx : l[k]? = some x) (hok : (bDev n l eps (k + 1)).Ok) : Rv (w.setCell ⟨sg, k, none⟩ (.int .u8 x)) r sg eg (bDev n l eps (k + 1)) := by
  obtain ⟨cap, ecap, ex, a1, ⟨ex', a2, a3, a3', a3''⟩, a4, a5⟩ := h.lay
  have hS : (bDev n l eps (k + 1)).S.length = (bDev n l eps k).S.length := by simp [bDev, chunks_len]
  refine ⟨hok, h.ne, cap, ecap, ex, ?_, ⟨ex', ?_, by rw [hS]; exact a3, by rw [hS]; exact a3', a3''⟩, heap_set_ne a4 (Ne.symm h.ne.2.2), a5⟩
  · have e : refCells (bDev n l eps (k + 1)) sg cap eg ecap = refCells (bDev n l eps k) sg cap eg ecap := by simp only [refCells, hS]; rfl
    rw [e]
    exact heap_set_ne a1 h.ne.1
  · rw [heap_set a2]
    congr 2
    have f1 : (bDev n l eps k).S.flatten = l.take k ++ List.replicate (n * 64 - k) 0 := mid_flat n l k (by omega) hl
    have f2 : (bDev n l eps (k + 1)).S.flatten = l.take (k + 1) ++ List.replicate (n * 64 - (k + 1)) 0 := mid_flat n l (k + 1) (by omega) hl
    have hlk : (l.take k).length = k := by simp; omega
    have hkl : k < l.length := by omega
    have hxe : l[k] = x := by rw [List.getElem?_eq_getElem hkl] at hx; exact Option.some.inj hx
    rw [f1, f2, List.setIfInBounds_toArray, List.set_append_left _ _ (by rw [u8s_len, List.length_append, hlk, List.length_replicate]; omega)]
    congr 2
    rw [show u8s = List.map (Value.int .u8) from rfl, ← List.map_set, List.set_append_right _ _ (by omega), hlk, Nat.sub_self, show n * 64 - k = (n * 64 - (k + 1)) + 1 by omega, List.replicate_succ, List.set_cons_zero, List.take_succ_eq_append_getElem hkl, hxe, List.append_assoc]
    rfl
theorem Rv.byte {w : World} {r sg eg : Nat} {D : Dev} (h : Rv w r sg eg D) (k : Nat) (hk : k < D.S.length * 64) : (∃ u, w.cell? ⟨sg, k, none⟩ = some u) ∧ w.frozen? ⟨sg, k, none⟩ = false := by
  obtain ⟨cap, ecap, ex, a1, ⟨ex', a2, a3⟩, a4, a5⟩ := h.lay
  refine ⟨?_, frozen_of_block a2 k⟩
  rw [cell_of_block a2, List.getElem?_toArray, List.getElem?_append_left (by rw [u8s_len, flat_len h.ok.sec]; exact hk)]
  exact ⟨_, List.getElem?_eq_getElem (by rw [u8s_len, flat_len h.ok.sec]; exact hk)⟩
theorem Rv.epochW {w : World} {r sg eg : Nat} {D : Dev} (h : Rv w r sg eg D) (k : Nat) : w.frozen? ⟨eg, k, none⟩ = false := by
  obtain ⟨cap, ecap, ex, a1, a2, a4, a5⟩ := h.lay
  exact frozen_of_block a4 k

end Go.Proofs.YtmeajhdhiebkdaaDoor.Dv

/-
  Single operations of the document's device.
-/
namespace Go.Proofs.YtmeajhdhiebkdaaDoor.Dv
set_option maxRecDepth 100000
open Go.RowKit

section
variable {o : Oper} {a : Act} {w : World} {K : Act → World → Prop} {Q : Exit → Act → World → Prop}
theorem o_fld51_0 (x : Operand) (ho : o.op = .fieldAddr 101 x 0) (b : Nat) (hx : a.eval x = P0 b) (h : K (a.put o.dst (.pointer (some ⟨b, 0, none⟩))) w) : o.wp Tryd.prog a w K Q := by
  unfold Oper.wp execOp
  simp only [ho, hx]
  simp [go_sem]
  exact h
theorem o_fld51_1 (x : Operand) (ho : o.op = .fieldAddr 101 x 1) (b : Nat) (hx : a.eval x = P0 b) (h : K (a.put o.dst (.pointer (some ⟨b, 1, none⟩))) w) : o.wp Tryd.prog a w K Q := by
  unfold Oper.wp execOp
  simp only [ho, hx]
  simp [go_sem]
  exact h
theorem o_load36 (x : Operand) (ho : o.op = .load 85 x) (p : Addr) (v : Value) (hx : a.eval x = .pointer (some p)) (hc : w.cell? p = some v) (h : K (a.put o.dst (v)) w) : o.wp Tryd.prog a w K Q := by
  unfold Oper.wp execOp
  simp only [ho, hx]
  simp [go_sem, hc]
  exact h
theorem o_load43 (x : Operand) (ho : o.op = .load 56 x) (p : Addr) (v : Value) (hx : a.eval x = .pointer (some p)) (hc : w.cell? p = some v) (h : K (a.put o.dst (v)) w) : o.wp Tryd.prog a w K Q := by
  unfold Oper.wp execOp
  simp only [ho, hx]
  simp [go_sem, hc]
  exact h
theorem o_nil (x : Operand) (ho : o.op = .nilCheck x) (p : Addr) (hx : a.eval x = .pointer (some p)) (h : K (a.put o.dst (.pointer (some p))) w) : o.wp Tryd.prog a w K Q := by
  unfold Oper.wp execOp
  simp only [ho, hx]
  simp [go_sem]
  exact h
end

end Go.Proofs.YtmeajhdhiebkdaaDoor.Dv

/-
  The walk of the document's Of.
-/
namespace Go.Proofs.YtmeajhdhiebkdaaDoor.Dv
open Go.RowKit

/-- What the document's Of leaves. -/
def OfR (w : World) (m : Nat) (l eps : List Int) (e : Ending) (w' : World) : Prop := Kept [] w w' ∧ ((ofB m eps = false ∧ e = .returned (.pointer none)) ∨ (ofB m eps = true ∧ ∃ r sg eg, e = .returned (P0 r) ∧ (w.heap.size ≤ r ∧ w.heap.size ≤ sg ∧ w.heap.size ≤ eg) ∧ Rv w' r sg eg (ofDev l eps)))
set_option maxHeartbeats 2000000 in
set_option maxRecDepth 100000 in
theorem r_of_rem (ao eo : Option Addr) (m c n ec : Nat) (l eps : List Int) (w : World) (hm : m ≤ 140737488355328) (hr : ¬ m % 64 = 0) : Calls Tryd.prog 27 #[.slice ao m c, .slice eo n ec] w (OfR w m l eps) := by
  have hrem : ¬ (m : Int) % 64 = 0 := by omega
  go_enter Tryd.func27, Tryd.ntmps27
  go_wp2_with fail
  go_ret
  exact ⟨Kept.refl _ _, .inl ⟨by simp [ofB, hr], rfl⟩⟩
set_option maxHeartbeats 2000000 in
set_option maxRecDepth 100000 in
theorem r_of_no (ao eo : Option Addr) (m c n ec M : Nat) (l eps : List Int) (w : World) (hm : m ≤ 140737488355328) (_ : n ≤ 140737488355328) (hmM : m = M * 64) (hen : eps.length = n) (hnew : newB M n = false) : Calls Tryd.prog 27 #[.slice ao m c, .slice eo n ec] w (OfR w m l eps) := by
  have hrem : (m : Int) % 64 = 0 := by omega
  have hquo : (m : Int) / 64 = (M : Int) := by omega
  have hof : ofB m eps = false := by
    have : m / 64 = M := by omega
    simp [ofB, this, hen, hnew]
  have HO := hide hof
  have HN := hide (r_new_no M n w hnew)
  clear hmM hof hnew hen
  go_enter Tryd.func27, Tryd.ntmps27
  go_wp2_with (
    first
    | (go_at_call 45
       refine (unhide HN).mono ?_
       rintro e w' ⟨rfl, hww⟩
       obtain rfl := hww.symm
       clear hww HN))
  go_loopw [6] (fun i wr => i = .int .i64 0 ∧ wr = w) (fun _ _ => 0)
  case atStart => exact ⟨rfl, rfl⟩
  case round =>
    obtain ⟨rfl, hww⟩ := hrel
    obtain rfl := hww.symm
    go_wp2_with fail
    go_loopw [7] (fun i wr => i = .int .i64 0 ∧ wr = w) (fun _ _ => 0)
    case atStart => exact ⟨rfl, rfl⟩
    case round =>
      obtain ⟨rfl, hww⟩ := hrel
      obtain rfl := hww.symm
      go_wp2_with fail
      go_ret
      exact ⟨Kept.refl _ _, .inl ⟨unhide HO, rfl⟩⟩
set_option maxHeartbeats 2000000 in
set_option maxRecDepth 100000 in
theorem r_of_yes (ao eo : Option Addr) (m c n ec M : Nat) (l eps : List Int) (w : World) (hb : ∀ x ∈ l, 0 ≤ x ∧ x < 256) (hl : Vals w ao m c (u8s l)) (he : Vals w eo n ec (eps.map (Value.int .i64))) (hmM : m = M * 64) (hnew : newB M n = true) : Calls Tryd.prog 27 #[.slice ao m c, .slice eo n ec] w (OfR w m l eps) := by
  have hlm := hl.len
  rw [u8s_len] at hlm
  have hen := he.len
  rw [List.length_map] at hen
  have hb0 : (1 ≤ (M : Int) ∧ (M : Int) ≤ 4096) ∧ 1 ≤ (n : Int) ∧ (n : Int) ≤ 8 := by simpa [newB] using hnew
  obtain ⟨⟨hM0, hM1⟩, hn0, hn1⟩ := hb0
  have hrem : (m : Int) % 64 = 0 := by omega
  have hquo : (m : Int) / 64 = (M : Int) := by omega
  have hof : ∀ t, eps.all (fun e => decide (0 ≤ e ∧ e ≤ 2147483647)) = t → ofB m eps = t := by
    intro t ht
    have : m / 64 = M := by omega
    simp only [ofB, ht, this, hen, hnew, Bool.and_true]
    have h0 : m % 64 = 0 := by omega
    simp [h0]
  obtain ⟨bh, boff, rfl, hbr⟩ := hl.lies (by intro e; have := congrArg List.length e; rw [u8s_len] at this; simp at this; subst this; simp at hlm; omega)
  obtain ⟨hh, off, rfl, her⟩ := he.lies (by intro e; have := congrArg List.length e; simp at this; subst this; simp at hen; omega)
  have HO := hide hof
  have HB := hide hb
  have HBR := hide hbr
  have HER := hide her
  have HM := hide hmM
  have HN := hide (r_new_yes M n w hnew)
  have h9 : m ≤ 1000000 := by omega
  clear hof hb hbr her hl he hnew hmM
  go_enter Tryd.func27, Tryd.ntmps27
  go_wp2_with (
    first
    | (go_at_call 45
       refine (unhide HN).mono ?_
       rintro e W1 ⟨r, sg, eg, rfl, hr1, hr2, hr3, hR, K1⟩
       have HG : Hid (w.heap.size ≤ r ∧ w.heap.size ≤ sg ∧ w.heap.size ≤ eg) := ⟨hr1, hr2, hr3⟩
       have HR : Hid (Rv W1 r sg eg (eDev M eps 0)) := by show Rv _ _ _ _ _; rw [eDev_zero, hen]; exact hR
       have HK := hide K1
       clear hr1 hr2 hr3 hR K1 HN))
  go_loopw [6] (fun i wr => ∃ k : Nat, k ≤ n ∧ i = .int .i64 k ∧ Hid (∀ e ∈ eps.take k, 0 ≤ e ∧ e ≤ 2147483647) ∧ Hid (Rv wr r sg eg (eDev M eps k)) ∧ Hid (Kept [] w wr)) (fun i _ => n - (intOf i).toNat)
  case atStart => exact ⟨0, by omega, rfl, by intro e he; simp at he, HR, HK⟩
  case round =>
    clear HR HK
    obtain ⟨k, hk, rfl, HV, HR, HK⟩ := hrel
    by_cases hlt : k < n
    · have hke : k < eps.length := by omega
      obtain ⟨e, hee⟩ : ∃ e, eps[k] = e := ⟨_, rfl⟩
      have hce := (unhide HK).cell (unhide HER k (.int .i64 e) (by simp [hke, hee])) (by simp)
      have hmem : e ∈ eps := by rw [← hee]; exact List.getElem_mem hke
      by_cases hv : 0 ≤ e ∧ e ≤ 2147483647
      · obtain ⟨hv1, hv2⟩ := hv
        have hd1 : ¬ e < 0 := by omega
        have hd2 : ¬ 2147483647 < e := by omega
        obtain ⟨cap, ecap, c0, c1, c2, c3, c4, cf, hbd, hec⟩ := (unhide HR).cells
        have C1 := hide c1
        have CE := hide hce
        clear c0 c1 c2 c3 c4 cf hbd hec
        go_wp2_with fail
        refine wp_region_any mixed (wpAny_tq1 10 rfl (by kernel_rfl) [some (P0 r), some (P0 r), some (.pointer (some ⟨r, 1, none⟩)), some (.slice (some ⟨eg, 0, none⟩) (eDev M eps k).N ecap), some (.int .i64 k), some (.slice (some ⟨hh, off, none⟩) n ec), some (.int .i64 k), some (.pointer (some ⟨hh, off + k, none⟩)), some (.int .i64 e), some (.pointer (some ⟨eg, 0 + k, none⟩))] rfl (by kernel_rfl) (by kernel_rfl) ?_ ?_)
        · intro i o' hi hsk ho a' w2 hout hin hk2
          replace hk2 : Kept [] wr w2 := ⟨hk2.os, hk2.tape, hk2.output, hk2.size, hk2.block⟩
          match i, ho, hsk with
          | 0, ho, hsk =>
            obtain rfl := Option.some.inj ho
            exact wp_move (.tmp 5) rfl _ ((hout 5 (by kernel_rfl)).trans rfl) ⟨_, rfl, tq_is _ _ _ _ rfl, Kept.refl _ _, fun _ _ _ _ _ => trivial⟩
          | 1, ho, hsk =>
            obtain rfl := Option.some.inj ho
            have e0 : a'.eval (.tmp 40) = P0 r := is_tq (hin 0 40 (by kernel_rfl) (by kernel_rfl)) rfl
            exact o_nil (.tmp 40) rfl _ e0 ⟨_, rfl, tq_is _ _ _ _ rfl, Kept.refl _ _, fun _ _ _ _ _ => trivial⟩
          | 2, ho, hsk =>
            obtain rfl := Option.some.inj ho
            have e0 : a'.eval (.tmp 41) = P0 r := is_tq (hin 1 41 (by kernel_rfl) (by kernel_rfl)) rfl
            exact o_fld51_1 (.tmp 41) rfl r e0 ⟨_, rfl, tq_is _ _ _ _ rfl, Kept.refl _ _, fun _ _ _ _ _ => trivial⟩
          | 3, ho, hsk =>
            obtain rfl := Option.some.inj ho
            have e0 : a'.eval (.tmp 42) = .pointer (some ⟨r, 1, none⟩) := is_tq (hin 2 42 (by kernel_rfl) (by kernel_rfl)) rfl
            exact o_load43 (.tmp 42) rfl ⟨r, 1, none⟩ _ e0 (hk2.cell (unhide C1) (by simp)) ⟨_, rfl, tq_is _ _ _ _ rfl, Kept.refl _ _, fun _ _ _ _ _ => trivial⟩
          | 4, ho, hsk =>
            obtain rfl := Option.some.inj ho
            exact wp_move (.tmp 6) rfl _ ((hout 6 (by kernel_rfl)).trans rfl) ⟨_, rfl, tq_is _ _ _ _ rfl, Kept.refl _ _, fun _ _ _ _ _ => trivial⟩
          | 5, ho, hsk =>
            obtain rfl := Option.some.inj ho
            exact wp_move (.tmp 1) rfl _ ((hout 1 (by kernel_rfl)).trans rfl) ⟨_, rfl, tq_is _ _ _ _ rfl, Kept.refl _ _, fun _ _ _ _ _ => trivial⟩
          | 6, ho, hsk =>
            obtain rfl := Option.some.inj ho
            exact wp_move (.tmp 6) rfl _ ((hout 6 (by kernel_rfl)).trans rfl) ⟨_, rfl, tq_is _ _ _ _ rfl, Kept.refl _ _, fun _ _ _ _ _ => trivial⟩
          | 7, ho, hsk =>
            obtain rfl := Option.some.inj ho
            have e0 : a'.eval (.tmp 45) = .slice (some ⟨hh, off, none⟩) n ec := is_tq (hin 5 45 (by kernel_rfl) (by kernel_rfl)) rfl
            have e1 : a'.eval (.tmp 46) = .int .i64 k := is_tq (hin 6 46 (by kernel_rfl) (by kernel_rfl)) rfl
            exact o_idx43 (.tmp 45) (.tmp 46) rfl hh off n ec k hlt e0 e1 ⟨_, rfl, tq_is _ _ _ _ rfl, Kept.refl _ _, fun _ _ _ _ _ => trivial⟩
          | 8, ho, hsk =>
            obtain rfl := Option.some.inj ho
            have e0 : a'.eval (.tmp 47) = .pointer (some ⟨hh, off + k, none⟩) := is_tq (hin 7 47 (by kernel_rfl) (by kernel_rfl)) rfl
            exact o_load2 (.tmp 47) rfl ⟨hh, off + k, none⟩ _ e0 (hk2.cell (unhide CE) (by simp)) ⟨_, rfl, tq_is _ _ _ _ rfl, Kept.refl _ _, fun _ _ _ _ _ => trivial⟩
          | 9, ho, hsk =>
            obtain rfl := Option.some.inj ho
            have e0 : a'.eval (.tmp 43) = .slice (some ⟨eg, 0, none⟩) (eDev M eps k).N ecap := is_tq (hin 3 43 (by kernel_rfl) (by kernel_rfl)) rfl
            have e1 : a'.eval (.tmp 44) = .int .i64 k := is_tq (hin 4 44 (by kernel_rfl) (by kernel_rfl)) rfl
            exact o_idx43 (.tmp 43) (.tmp 44) rfl eg 0 _ ecap k (by rw [show (eDev M eps k).N = n from hen]; exact hlt) e0 e1 ⟨_, rfl, tq_is _ _ _ _ rfl, Kept.refl _ _, fun _ _ _ _ _ => trivial⟩
        intro w9 hk9
        replace hk9 : Kept [] wr w9 := ⟨hk9.os, hk9.tape, hk9.output, hk9.size, hk9.block⟩
        simp only [valsQ, List.map_cons, List.map_nil, Option.getD_some, List.take_succ_cons, List.take_zero, putAll, Act.put, List.setIfInBounds_toArray, List.set_cons_succ, List.set_cons_zero]
        refine wpAny_all (rs := [10]) (by kernel_rfl) (by simp) ?_
        intro i hi
        obtain rfl : i = 10 := by simpa using hi
        have HR9 := (unhide HR).kept hk9 (by simp) (by simp) (by simp)
        refine wpOp_of rfl rfl (o_store2 (.tmp 49) (.tmp 48) rfl ⟨eg, 0 + k, none⟩ e _ rfl rfl (by rw [Nat.zero_add]; exact HR9.epoch k (by rw [show (eDev M eps k).N = n from hen]; exact hlt)) (by rw [Nat.zero_add]; exact Rv.epochW HR9 k) ?_)
        refine wpAny_done (by kernel_rfl) ?_ _
        have HR2 : Hid (Rv (w9.setCell ⟨eg, 0 + k, none⟩ (.int .i64 e)) r sg eg (eDev M eps (k + 1))) := by
          show Rv _ _ _ _ _
          have := HR9.putEp (k := k) (x := e) (by rw [show (eDev M eps k).N = n from hen]; exact hlt) ⟨hv1, hv2⟩
          rw [Nat.zero_add, ← eDev_succ M eps k hke (by omega), hee]
          exact this
        have HK2 : Hid (Kept [] w (w9.setCell ⟨eg, 0 + k, none⟩ (.int .i64 e))) := ((unhide HK).trans hk9).setCell (p := ⟨eg, 0 + k, none⟩) (by have := unhide HG; simp; omega) _
        have HV2 : Hid (∀ e ∈ eps.take (k + 1), 0 ≤ e ∧ e ≤ 2147483647) := by
          intro e' he'
          rw [List.take_succ_eq_append_getElem hke, List.mem_append] at he'
          rcases he' with h | h
          · exact unhide HV e' h
          · rw [hee] at h; rw [List.mem_singleton.1 h]; exact ⟨hv1, hv2⟩
        generalize w9.setCell ⟨eg, 0 + k, none⟩ (.int .i64 e) = W5 at *
        clear HR HK HV HR9 hk9 hce C1 CE
        go_wp2_with fail
        go_roundw
        case rel => exact ⟨k + 1, by omega, by go_num, HV2, HR2, HK2⟩
        case measure => simp [intOf]; omega
      · have hof := unhide HO false (by
          rw [List.all_eq_false]
          exact ⟨e, hmem, by simpa using hv⟩)
        have HF := hide hof
        clear hof
        by_cases hv1 : e < 0
        · go_wp2_with fail
          go_ret
          exact ⟨unhide HK, .inl ⟨unhide HF, rfl⟩⟩
        · have hd2 : 2147483647 < e := by omega
          go_wp2_with fail
          go_ret
          exact ⟨unhide HK, .inl ⟨unhide HF, rfl⟩⟩
    · obtain rfl : k = n := by omega
      have hE : ∀ e ∈ eps, 0 ≤ e ∧ e ≤ 2147483647 := by
        have := unhide HV
        rwa [List.take_of_length_le (by omega)] at this
      have hof := unhide HO true (by rw [List.all_eq_true]; intro e he; simpa using hE e he)
      have HF := hide hof
      have HE := hide hE
      have HR3 : Hid (Rv wr r sg eg (bDev M l eps 0)) := by show Rv _ _ _ _ _; rw [bDev_zero, hen]; exact unhide HR
      clear hof hE HV HR
      go_wp2_with fail
      go_loopw [7] (fun i wr => ∃ j : Nat, j ≤ m ∧ i = .int .i64 j ∧ Hid (Rv wr r sg eg (bDev M l eps j)) ∧ Hid (Kept [] w wr)) (fun i _ => m - (intOf i).toNat)
      case atStart => exact ⟨0, by omega, rfl, HR3, HK⟩
      case round =>
        clear HR3 HK
        obtain ⟨k, hk, rfl, HR, HK⟩ := hrel
        by_cases hlt : k < m
        · have hmM := unhide HM
          have hkl : k < l.length := by omega
          obtain ⟨x, hx⟩ : ∃ x, l[k]? = some x := ⟨_, List.getElem?_eq_getElem hkl⟩
          have CX := hide ((unhide HK).cell (unhide HBR k (.int .u8 x) (by simp [u8s, hx])) (by simp))
          obtain ⟨cap, ecap, c0, c1, c2, c3, c4, cf, hbd, hec⟩ := (unhide HR).cells
          have C0 := hide c0
          have hSl : (bDev M l eps k).S.length = M := by simp [bDev, chunks_len]
          clear c0 c1 c2 c3 c4 cf hbd hec
          go_wp2_with fail
          refine wp_region_any mixed (wpAny_tq1 14 rfl (by kernel_rfl) [some (P0 r), some (P0 r), some (.pointer (some ⟨r, 0, none⟩)), some (.slice (some ⟨sg, 0, none⟩) (bDev M l eps k).S.length cap), some (.int .i64 k), some (.int .i64 (k / 64 : Nat)), some (.int .i64 k), some (.int .i64 (k % 64 : Nat)), some (.slice (some ⟨bh, boff, none⟩) m c), some (.int .i64 k), some (.pointer (some ⟨bh, boff + k, none⟩)), some (.int .u8 x), some (.pointer (some ⟨sg, k / 64 * 64, none⟩)), some (.pointer (some ⟨sg, k / 64 * 64 + k % 64, none⟩))] rfl (by kernel_rfl) (by kernel_rfl) ?_ ?_)
          · intro i o' hi hsk ho a' w2 hout hin hk2
            replace hk2 : Kept [] wr w2 := ⟨hk2.os, hk2.tape, hk2.output, hk2.size, hk2.block⟩
            match i, ho, hsk with
            | 0, ho, hsk =>
              obtain rfl := Option.some.inj ho
              exact wp_move (.tmp 5) rfl _ ((hout 5 (by kernel_rfl)).trans rfl) ⟨_, rfl, tq_is _ _ _ _ rfl, Kept.refl _ _, fun _ _ _ _ _ => trivial⟩
            | 1, ho, hsk =>
              obtain rfl := Option.some.inj ho
              have e0 : a'.eval (.tmp 60) = P0 r := is_tq (hin 0 60 (by kernel_rfl) (by kernel_rfl)) rfl
              exact o_nil (.tmp 60) rfl _ e0 ⟨_, rfl, tq_is _ _ _ _ rfl, Kept.refl _ _, fun _ _ _ _ _ => trivial⟩
            | 2, ho, hsk =>
              obtain rfl := Option.some.inj ho
              have e0 : a'.eval (.tmp 61) = P0 r := is_tq (hin 1 61 (by kernel_rfl) (by kernel_rfl)) rfl
              exact o_fld51_0 (.tmp 61) rfl r e0 ⟨_, rfl, tq_is _ _ _ _ rfl, Kept.refl _ _, fun _ _ _ _ _ => trivial⟩
            | 3, ho, hsk =>
              obtain rfl := Option.some.inj ho
              have e0 : a'.eval (.tmp 62) = .pointer (some ⟨r, 0, none⟩) := is_tq (hin 2 62 (by kernel_rfl) (by kernel_rfl)) rfl
              exact o_load36 (.tmp 62) rfl ⟨r, 0, none⟩ _ e0 (hk2.cell (unhide C0) (by simp)) ⟨_, rfl, tq_is _ _ _ _ rfl, Kept.refl _ _, fun _ _ _ _ _ => trivial⟩
            | 4, ho, hsk =>
              obtain rfl := Option.some.inj ho
              exact wp_move (.tmp 7) rfl _ ((hout 7 (by kernel_rfl)).trans rfl) ⟨_, rfl, tq_is _ _ _ _ rfl, Kept.refl _ _, fun _ _ _ _ _ => trivial⟩
            | 5, ho, hsk =>
              obtain rfl := Option.some.inj ho
              have e0 : a'.eval (.tmp 64) = .int .i64 k := is_tq (hin 4 64 (by kernel_rfl) (by kernel_rfl)) rfl
              exact o_quo64 (.tmp 64) rfl k (by omega) e0 ⟨_, rfl, tq_is _ _ _ _ rfl, Kept.refl _ _, fun _ _ _ _ _ => trivial⟩
            | 6, ho, hsk =>
              obtain rfl := Option.some.inj ho
              exact wp_move (.tmp 7) rfl _ ((hout 7 (by kernel_rfl)).trans rfl) ⟨_, rfl, tq_is _ _ _ _ rfl, Kept.refl _ _, fun _ _ _ _ _ => trivial⟩
            | 7, ho, hsk =>
              obtain rfl := Option.some.inj ho
              have e0 : a'.eval (.tmp 66) = .int .i64 k := is_tq (hin 6 66 (by kernel_rfl) (by kernel_rfl)) rfl
              exact o_rem64 (.tmp 66) rfl k (by omega) e0 ⟨_, rfl, tq_is _ _ _ _ rfl, Kept.refl _ _, fun _ _ _ _ _ => trivial⟩
            | 8, ho, hsk =>
              obtain rfl := Option.some.inj ho
              exact wp_move (.tmp 0) rfl _ ((hout 0 (by kernel_rfl)).trans rfl) ⟨_, rfl, tq_is _ _ _ _ rfl, Kept.refl _ _, fun _ _ _ _ _ => trivial⟩
            | 9, ho, hsk =>
              obtain rfl := Option.some.inj ho
              exact wp_move (.tmp 7) rfl _ ((hout 7 (by kernel_rfl)).trans rfl) ⟨_, rfl, tq_is _ _ _ _ rfl, Kept.refl _ _, fun _ _ _ _ _ => trivial⟩
            | 10, ho, hsk =>
              obtain rfl := Option.some.inj ho
              have e0 : a'.eval (.tmp 68) = .slice (some ⟨bh, boff, none⟩) m c := is_tq (hin 8 68 (by kernel_rfl) (by kernel_rfl)) rfl
              have e1 : a'.eval (.tmp 69) = .int .i64 k := is_tq (hin 9 69 (by kernel_rfl) (by kernel_rfl)) rfl
              exact o_idx42 (.tmp 68) (.tmp 69) rfl bh boff m c k hlt e0 e1 ⟨_, rfl, tq_is _ _ _ _ rfl, Kept.refl _ _, fun _ _ _ _ _ => trivial⟩
            | 11, ho, hsk =>
              obtain rfl := Option.some.inj ho
              have e0 : a'.eval (.tmp 70) = .pointer (some ⟨bh, boff + k, none⟩) := is_tq (hin 10 70 (by kernel_rfl) (by kernel_rfl)) rfl
              exact o_load5 (.tmp 70) rfl ⟨bh, boff + k, none⟩ _ e0 (hk2.cell (unhide CX) (by simp)) ⟨_, rfl, tq_is _ _ _ _ rfl, Kept.refl _ _, fun _ _ _ _ _ => trivial⟩
            | 12, ho, hsk =>
              obtain rfl := Option.some.inj ho
              have e0 : a'.eval (.tmp 63) = .slice (some ⟨sg, 0, none⟩) (bDev M l eps k).S.length cap := is_tq (hin 3 63 (by kernel_rfl) (by kernel_rfl)) rfl
              have e1 : a'.eval (.tmp 65) = .int .i64 (k / 64 : Nat) := is_tq (hin 5 65 (by kernel_rfl) (by kernel_rfl)) rfl
              exact o_idxS (.tmp 63) (.tmp 65) rfl sg _ cap (k / 64) (by rw [hSl]; omega) e0 e1 ⟨_, rfl, tq_is _ _ _ _ rfl, Kept.refl _ _, fun _ _ _ _ _ => trivial⟩
            | 13, ho, hsk =>
              obtain rfl := Option.some.inj ho
              have e0 : a'.eval (.tmp 72) = .pointer (some ⟨sg, k / 64 * 64, none⟩) := is_tq (hin 12 72 (by kernel_rfl) (by kernel_rfl)) rfl
              have e1 : a'.eval (.tmp 67) = .int .i64 (k % 64 : Nat) := is_tq (hin 7 67 (by kernel_rfl) (by kernel_rfl)) rfl
              exact o_idx38 (.tmp 72) (.tmp 67) rfl sg (k / 64 * 64) (k % 64) (by omega) e0 e1 ⟨_, rfl, tq_is _ _ _ _ rfl, Kept.refl _ _, fun _ _ _ _ _ => trivial⟩
          intro w9 hk9
          replace hk9 : Kept [] wr w9 := ⟨hk9.os, hk9.tape, hk9.output, hk9.size, hk9.block⟩
          simp only [valsQ, List.map_cons, List.map_nil, Option.getD_some, List.take_succ_cons, List.take_zero, putAll, Act.put, List.setIfInBounds_toArray, List.set_cons_succ, List.set_cons_zero]
          refine wpAny_all (rs := [14]) (by kernel_rfl) (by simp) ?_
          intro i hi
          obtain rfl : i = 14 := by simpa using hi
          have HR9 := (unhide HR).kept hk9 (by simp) (by simp) (by simp)
          have hdm : k / 64 * 64 + k % 64 = k := Nat.div_add_mod' k 64
          obtain ⟨⟨u, hu⟩, hfz⟩ := Rv.byte HR9 k (by rw [hSl]; omega)
          refine wpOp_of rfl rfl (o_store5 (.tmp 73) (.tmp 71) rfl ⟨sg, k / 64 * 64 + k % 64, none⟩ x u rfl rfl (by rw [hdm]; exact hu) (by rw [hdm]; exact hfz) ?_)
          refine wpAny_done (by kernel_rfl) ?_ _
          have HR2 : Hid (Rv (w9.setCell ⟨sg, k / 64 * 64 + k % 64, none⟩ (.int .u8 x)) r sg eg (bDev M l eps (k + 1))) := by
            show Rv _ _ _ _ _
            rw [hdm]
            exact Rv.putByte HR9 (by omega) (by omega) hx (bDev_ok (by omega) (by omega) (by omega) (by omega) (unhide HB) (unhide HE))
          have HK2 : Hid (Kept [] w (w9.setCell ⟨sg, k / 64 * 64 + k % 64, none⟩ (.int .u8 x))) := ((unhide HK).trans hk9).setCell (p := ⟨sg, k / 64 * 64 + k % 64, none⟩) (by have := unhide HG; simp; omega) _
          generalize w9.setCell ⟨sg, k / 64 * 64 + k % 64, none⟩ (.int .u8 x) = W5 at *
          clear HR HK HR9 hk9 CX C0 hu hfz hdm hmM
          go_wp2_with fail
          go_roundw
          case rel => exact ⟨k + 1, by omega, by go_num, HR2, HK2⟩
          case measure => simp [intOf]; omega
        · obtain rfl : k = m := by omega
          go_wp2_with fail
          go_ret
          refine ⟨unhide HK, .inr ⟨unhide HF, r, sg, eg, rfl, unhide HG, ?_⟩⟩
          have := unhide HR
          rw [unhide HM] at this
          rwa [bDev_end M l eps (by have := unhide HM; omega)] at this
theorem r_of (ao eo : Option Addr) (m c n ec : Nat) (l eps : List Int) (w : World) (hb : ∀ x ∈ l, 0 ≤ x ∧ x < 256) (hl : Vals w ao m c (u8s l)) (he : Vals w eo n ec (eps.map (Value.int .i64))) (hm : m ≤ 140737488355328) (hnn : n ≤ 140737488355328) : Calls Tryd.prog 27 #[.slice ao m c, .slice eo n ec] w (OfR w m l eps) := by
  by_cases hr : m % 64 = 0
  · obtain ⟨M, hmM⟩ : ∃ M, m = M * 64 := ⟨m / 64, by omega⟩
    have hen := he.len
    rw [List.length_map] at hen
    cases hnew : newB M n with
    | false => exact r_of_no ao eo m c n ec M l eps w hm hnn hmM hen hnew
    | true => exact r_of_yes ao eo m c n ec M l eps w hb hl he hmM hnew
  · exact r_of_rem ao eo m c n ec l eps w hm hr

end Go.Proofs.YtmeajhdhiebkdaaDoor.Dv
