/-
  The walk of Of.
-/
import Derived.Test.YtffflafalffifaaNoth
import Derived.Laws.IdiomCopy
namespace Go.Proofs.Ytffflafalffifaa
open Go.RowKit

/-- A slice of values of one cell each. -/
structure Vals (w : World) (ao : Option Addr) (m c : Nat) (vs : List Value) : Prop where
  len : vs.length = m
  cap : m ≤ c
  lies : vs ≠ [] → ∃ h off, ao = some ⟨h, off, none⟩ ∧ w.rangeAt h off vs
theorem Vals.kept {w w' : World} {ao : Option Addr} {m c : Nat} {vs : List Value} {X : List Nat} (h : Vals w ao m c vs) (hk : Kept X w w') (ha : Away ao X) : Vals w' ao m c vs := by
  refine ⟨h.len, h.cap, fun hne => ?_⟩
  obtain ⟨b, off, e, hr⟩ := h.lies hne
  exact ⟨b, off, e, fun j v hj => hk.cell (hr j v hj) (ha b off e)⟩

section
variable {o : Oper} {a : Act} {w : World} {K : Act → World → Prop} {Q : Exit → Act → World → Prop}
/-- One operation: copy. -/
theorem wp_copyC (d s : Operand) (dT sT : TypeId) (ho : o.op = .call { callee := .builtin .copy, args := #[d, s], argTypes := #[dT, sT] }) (elem : TypeId) (hu : Try.prog.underlying dT = some (.slice elem)) (hsz : (Try.prog.info? elem).map (·.size) = some 1)
    (b off dLen dCap : Nat) (ad : Addr) (sLen sCap : Nat) (hd : a.eval d = .slice (some ⟨b, off, none⟩) dLen dCap) (hs : a.eval s = .slice (some ad) sLen sCap) (cs : List Value) (hn : cs.length = Nat.min sLen dLen)
    (hsrc : ∀ j v, cs[j]? = some v → w.cell? (ad.add j) = some v) (hth : w.there b off cs.length) (h1 : ∀ v ∈ cs, v.oneCell' = true) (h : K (a.put o.dst (goInt cs.length)) (w.setCells b off cs)) : o.wp Try.prog a w K Q := by
  have hrun := run_copy_cells (P := Try.prog) w dT sT o.type elem b off dLen dCap ad sLen sCap cs hu hsz hn hsrc (fun j hj => (hth j hj).1) (fun j hj => (hth j hj).2) h1
  unfold Oper.wp
  simp [execOp, ho, resolve, invoke, builtin, hd, hs, hrun, Result.andThen]
  exact h
theorem step_copyC {ops : Array Oper} {E : Prop} (hgd : o.guard = none) (d s : Operand) (dT sT : TypeId) (ho : o.op = .call { callee := .builtin .copy, args := #[d, s], argTypes := #[dT, sT] }) (elem : TypeId) (hu : Try.prog.underlying dT = some (.slice elem)) (hsz : (Try.prog.info? elem).map (·.size) = some 1)
    (b off dLen dCap : Nat) (ad : Addr) (sLen sCap : Nat) (hd : a.eval d = .slice (some ⟨b, off, none⟩) dLen dCap) (hs : a.eval s = .slice (some ad) sLen sCap) (cs : List Value) (hn : cs.length = Nat.min sLen dLen)
    (hsrc : ∀ j v, cs[j]? = some v → w.cell? (ad.add j) = some v) (hth : w.there b off cs.length) (h1 : ∀ v ∈ cs, v.oneCell' = true) (h : K (a.put o.dst (goInt cs.length)) (w.setCells b off cs)) :
    if Region.wanted o (yielded ops a.tmps) = true then Oper.wp Try.prog o a w K Q else E := by
  rw [if_pos (by simp [Region.wanted, hgd])]
  exact wp_copyC d s dT sT ho elem hu hsz b off dLen dCap ad sLen sCap hd hs cs hn hsrc hth h1 h
theorem wpListCopyC {ops : Array Oper} {rest : List Oper} (hgd : o.guard = none) (d s : Operand) (dT sT : TypeId) (ho : o.op = .call { callee := .builtin .copy, args := #[d, s], argTypes := #[dT, sT] }) (elem : TypeId) (hu : Try.prog.underlying dT = some (.slice elem)) (hsz : (Try.prog.info? elem).map (·.size) = some 1)
    (b off dLen dCap : Nat) (ad : Addr) (sLen sCap : Nat) (hd : a.eval d = .slice (some ⟨b, off, none⟩) dLen dCap) (hs : a.eval s = .slice (some ad) sLen sCap) (cs : List Value) (hn : cs.length = Nat.min sLen dLen)
    (hsrc : ∀ j v, cs[j]? = some v → w.cell? (ad.add j) = some v) (hth : w.there b off cs.length) (h1 : ∀ v ∈ cs, v.oneCell' = true) (h : wpList Try.prog ops Q rest (a.put o.dst (goInt cs.length)) (w.setCells b off cs)) : wpList Try.prog ops Q (o :: rest) a w :=
  wpList_plain hgd fun _ hK => wp_copyC d s dT sT ho elem hu hsz b off dLen dCap ad sLen sCap hd hs cs hn hsrc hth h1 (hK _ _ h)
end

theorem Try.one5 : (Try.prog.info? 5).map (·.size) = some 1 := by kernel_rfl
theorem Try.one2 : (Try.prog.info? 2).map (·.size) = some 1 := by kernel_rfl

/-- May these be a device's bytes and epochs? -/
def ofB (m : Nat) (eps : List Int) : Bool := eps.all (fun e => decide (0 ≤ e ∧ e ≤ 2147483647)) && decide (m % 64 = 0) && newB (m / 64 : Nat) (eps.length : Nat)
/-- Bytes, cut into sectors. -/
def chunk (l : List Int) (i : Nat) : List Int := (l.drop (i * 64)).take 64
def chunks (k : Nat) (l : List Int) : List (List Int) := (List.range k).map (chunk l)
def ofDev (l eps : List Int) : Dev := ⟨chunks (l.length / 64) l, eps.length, eps ++ List.replicate (8 - eps.length) 0, 0, false, 0, false⟩
/-- The device while its sectors are copied. -/
def midDev (l : List Int) (k N n : Nat) : Dev := ⟨chunks k l ++ noughts (n - k), N, List.replicate 8 0, 0, false, 0, false⟩

theorem chunk_sec {l : List Int} (hl : ∀ x ∈ l, 0 ≤ x ∧ x < 256) {i : Nat} (hi : i * 64 + 64 ≤ l.length) : Sec (chunk l i) :=
  ⟨by simp [chunk]; omega, fun x hx => hl x (List.mem_of_mem_drop (List.mem_of_mem_take hx))⟩
theorem chunks_succ (k : Nat) (l : List Int) : chunks (k + 1) l = chunks k l ++ [chunk l k] := by simp [chunks, List.range_succ]
theorem chunks_len (k : Nat) (l : List Int) : (chunks k l).length = k := by simp [chunks]
theorem mid_len (l : List Int) (k N n : Nat) (h : k ≤ n) : (midDev l k N n).S.length = n := by simp [midDev, chunks_len, noughts_len]; omega
theorem mid_next (l : List Int) (k N n : Nat) (h : k < n) : { midDev l k N n with S := (midDev l k N n).S.set k (chunk l k) } = midDev l (k + 1) N n := by
  simp only [midDev]
  congr 1
  rw [List.set_append_right _ _ (by rw [chunks_len]; exact Nat.le_refl _), chunks_len, Nat.sub_self, chunks_succ]
  have : noughts (n - k) = nought :: noughts (n - (k + 1)) := by
    unfold noughts
    rw [show n - k = (n - (k + 1)) + 1 by omega, List.replicate_succ]
  rw [this]
  simp

theorem Dv.putE {w : World} {b g M m n : Nat} {l eps : List Int} (h : Dv w b g (midDev l M n M)) (hen : eps.length = n) (hn : n ≤ 8) (hE : ∀ x ∈ eps, 0 ≤ x ∧ x ≤ 2147483647) (hm : m = M * 64) (hl : l.length = m) : Dv (w.setCells b 2 (eps.map (Value.int .i64))) b g (ofDev l eps) := by
  have hS : (ofDev l eps).S = (midDev l M n M).S := by
    simp only [ofDev, midDev, Nat.sub_self]
    rw [hl, hm, Nat.mul_div_cancel _ (by decide)]
    simp [noughts]
  have hok := h.ok
  have hOk : (ofDev l eps).Ok := by
    refine ⟨by rw [hS]; exact hok.s0, by rw [hS]; exact hok.s1, by rw [hS]; exact hok.sec, ?_, ?_, ?_, ?_, ⟨by simp [ofDev], by simp [ofDev]⟩⟩
    · have := hok.n0; simp only [midDev] at this; simp only [ofDev]; omega
    · simp only [ofDev]; omega
    · simp [ofDev]; omega
    · intro e he
      rcases List.mem_append.1 he with h1 | h1
      · exact hE e h1
      · rw [List.eq_of_mem_replicate h1]; omega
  obtain ⟨cap, h1, ex, h2, h3⟩ := h.lay
  refine ⟨hOk, h.ne, cap, ?_, ex, ?_, ?_⟩
  · unfold Head at h1 ⊢
    have hsp : List.replicate 8 (0 : Int) = List.replicate n 0 ++ List.replicate (8 - n) 0 := by rw [List.replicate_append_replicate]; congr 1; omega
    have := heap_sets (b := b) (t := 67) (p := (0, 0)) (eps.map (Value.int .i64)) w 2 [.slice (some ⟨g, 0, none⟩) (midDev l M n M).S.length cap, .int .i64 n] ((List.replicate n 0).map (Value.int .i64)) ((List.replicate (8 - n) 0).map (Value.int .i64) ++ [.int .i64 0, .bool false, .int .i64 0, .bool false]) (by rw [h1]; simp only [devCells, midDev]; rw [hsp]; simp; rw [← List.append_assoc, List.replicate_append_replicate]) rfl (by rw [List.length_map, List.length_map, List.length_replicate, hen])
    rw [this]
    simp only [devCells, hS]
    simp [ofDev, hen]
  · rw [sets_ne _ _ _ _ (Ne.symm h.ne), hS]; exact h2
  · rw [hS]; exact h3

set_option maxHeartbeats 2000000 in
set_option maxRecDepth 100000 in
theorem of_yes (ao eo : Option Addr) (m c n ec : Nat) (l eps : List Int) (w : World) (hb : ∀ x ∈ l, 0 ≤ x ∧ x < 256) (hl : Vals w ao m c (u8s l)) (he : Vals w eo n ec (eps.map (Value.int .i64))) (hm : m ≤ 140737488355328) (h : ofB m eps = true) :
    Calls Try.prog 15 #[.slice ao m c, .slice eo n ec] w fun e w' => ∃ b g, e = .returned (.tuple #[P0 b, .int .i64 0]) ∧ w.heap.size ≤ b ∧ w.heap.size ≤ g ∧ Dv w' b g (ofDev l eps) ∧ Kept [] w w' := by
  have hlm := hl.len
  rw [u8s_len] at hlm
  have hen := he.len
  rw [List.length_map] at hen
  simp only [ofB, Bool.and_eq_true, List.all_eq_true, decide_eq_true_eq] at h
  obtain ⟨⟨hE, hmod⟩, hnew⟩ := h
  rw [hen] at hnew
  obtain ⟨M, hmM⟩ : ∃ M, m = M * 64 := ⟨m / 64, by omega⟩
  rw [hmM, Nat.mul_div_cancel _ (by decide)] at hnew
  have HM := hide hmM
  have hrem : (m : Int) % 64 = 0 := by omega
  have hquo : (m : Int) / 64 = (M : Int) := by omega
  clear hmM
  have hb0 : (1 ≤ (M : Int) ∧ (M : Int) ≤ 4096) ∧ 1 ≤ (n : Int) ∧ (n : Int) ≤ 8 := by simpa [newB] using hnew
  have HE := hide hE
  have HN := hide (new_yes M n w hnew)
  clear hE hnew hmod
  go_enter Try.func15, Try.ntmps15
  go_wp2_with fail
  go_loopw [7, 13] (fun _ i wr => ∃ k : Nat, k ≤ n ∧ i = .int .i64 k ∧ wr = w) (fun _ i _ => n - (intOf i).toNat)
  case atStart => exact ⟨0, by omega, rfl, rfl⟩
  case round =>
    obtain ⟨k, hk, rfl, hww⟩ := hrel
    obtain rfl := hww.symm
    by_cases hlt : k < n
    · obtain ⟨e, he1⟩ : ∃ e, eps[k]? = some e := ⟨_, List.getElem?_eq_getElem (by omega)⟩
      obtain ⟨hh, off, rfl, hr⟩ := he.lies (by intro e; simp at e; simp [e] at hen; omega)
      have hce := hr k (.int .i64 e) (by simp [he1])
      have hre := unhide HE e (List.mem_of_getElem? he1)
      have hde : decide (0 ≤ e ∧ e ≤ 2147483647) = true := by simpa using hre
      have hF := from47 0 e 2147483647 w
      rw [hde] at hF
      have HF := hide hF
      clear he1 hr hde hF
      go_wp2_with (go_at_call 47; refine (unhide HF).mono ?_; rintro e w' ⟨rfl, rfl⟩)
      go_roundw
      case rel => exact ⟨k + 1, by omega, by go_num, trivial⟩
      case measure => simp [intOf]; omega
    · go_wp2_with fail
      refine (unhide HN).mono ?_
      rintro e w1 ⟨b, g, rfl, hb1, hg1, hd1, hk1⟩
      obtain ⟨cap1, hh1, _⟩ := hd1.lay
      have hc1 := (hh1.cells hd1.ok).1
      rw [show (newDev M n).S.length = M from noughts_len M] at hc1
      clear hh1
      clear HN hlt
      go_wp2_with fail
      have hD0 : Hid (Dv w1 b g (midDev l 0 n M)) := hd1
      go_loopw [10, 42] (fun _ i w2 => ∃ j : Nat, j ≤ M ∧ i = .int .i64 j ∧ Hid (Dv w2 b g (midDev l j n M)) ∧ Hid (Kept [] w w2)) (fun _ i _ => M - (intOf i).toNat)
      case atStart => exact ⟨0, by omega, rfl, hD0, hk1⟩
      case round =>
        obtain ⟨j, hj, rfl, hDj, hKj⟩ := hrel
        have hdj := unhide hDj
        have hSl := mid_len l j n M hj
        obtain ⟨cap2, hh2, hbd2⟩ := hdj.lay
        have hc2 := (hh2.cells hdj.ok).1
        rw [hSl] at hc2
        by_cases hlt : j < M
        · have hMm := unhide HM
          have hth := hbd2.there hdj.ok.sec j (by rw [hSl]; exact hlt)
          obtain ⟨lh, loff, rfl, hlr⟩ := hl.lies (by intro e; have h9 := congrArg List.length e; rw [u8s_len, List.length_nil] at h9; omega)
          have hlk := hl.cap
          have hcl : (u8s (chunk l j)).length = 64 := by rw [u8s_len]; simp [chunk]; omega
          obtain ⟨q, hq⟩ : ∃ q, q = j * 64 := ⟨_, rfl⟩
          have hsrc : Hid (∀ i v, (u8s (chunk l j))[i]? = some v → wr.cell? ((⟨lh, loff + q, none⟩ : Addr).add i) = some v) := by
            intro i v hi
            have hil : i < 64 := by
              have := (List.getElem?_eq_some_iff.1 hi).1
              rw [hcl] at this; exact this
            rw [Addr.add_mid, Nat.add_assoc]
            refine (unhide hKj).cell (hlr (q + i) v ?_) (by simp)
            rw [← hi, hq]
            simp [u8s, chunk, hil]
          have hj0 : (0 : Int) ≤ (j : Int) := by omega
          have hjM : (j : Int) < (M : Int) := by omega
          have hmul : IntKind.i64.wrap ((j : Int) * 64) = (q : Int) := by rw [IntKind.wrap_i64]; omega
          have hq0 : (0 : Int) ≤ (q : Int) := by omega
          have hqm : (q : Int) ≤ (m : Int) := by omega
          have hmc : (m : Int) ≤ (c : Int) := by omega
          have hqc : ¬ c = q := by omega
          have hmin : Hid (64 = Nat.min (m - q) 64) := by show 64 = min (m - q) 64; omega
          have Hq := hide hq
          have hsec := hide (chunk_sec hb (i := j) (by omega))
          have hput := hide (hdj.drew.putS (k := j) (s := chunk l j) (by rw [hSl]; exact hlt) (unhide hsec))
          have hne := hdj.ne
          clear hMm hlr hq hh2 hbd2 hlk
          go_wp2_with fail
          go_region_held3 (fun w' => w'.cell? ⟨b, 0, none⟩ = some (.slice (some ⟨g, 0, none⟩) M cap2)) (first | (go_keep; done) | exact cell_sets_ne hne (by assumption)) ((refine step_copyC (by rfl) (.tmp 51) (.tmp 55) 42 42 (by rfl) 5 Try.underlying42 Try.one5 g (j * 64) 64 64 ⟨lh, loff + q, none⟩ (m - q) (c - q) (by rfl) (by rfl) (u8s (chunk l j)) (hcl.trans (unhide hmin)) (unhide hsrc) (by rw [hcl]; exact hth) (u8s_one _) ?_))
          go_wp2_with fail
          go_roundw
          case rel =>
            refine ⟨j + 1, by omega, by go_num, ?_, ?_⟩
            · have h9 := unhide hput
              rw [mid_next l j n M hlt] at h9
              exact h9
            · exact ((unhide hKj).drew).setCells _ _ (by omega)
          case measure => simp [intOf]; omega
        · obtain rfl : j = M := by omega
          obtain ⟨eh, eoff, rfl, her⟩ := he.lies (by intro e; have h9 := congrArg List.length e; rw [List.length_map, List.length_nil] at h9; omega)
          have hce := he.cap
          have hthe : Hid (wr.there b 2 n) := fun i hi => by
            rw [hh2.epoch hdj.ok i (by omega)]
            exact ⟨rfl, hh2.frozen _⟩
          have hsre : Hid (∀ i v, (eps.map (Value.int .i64))[i]? = some v → wr.cell? ((⟨eh, eoff, none⟩ : Addr).add i) = some v) := fun i v hi => by
            rw [Addr.add_mid]; exact (unhide hKj).cell (her i v hi) (by simp)
          have hmn : Hid (n = Nat.min n 8) := by show n = min n 8; omega
          have hle : (eps.map (Value.int .i64)).length = n := by rw [List.length_map]; exact hen
          have hone : ∀ v ∈ eps.map (Value.int .i64), v.oneCell' = true := ints_oneCell _ _
          clear her hh2 hbd2
          have hrun := run_copy_cells (P := Try.prog) wr 43 43 3 2 b 2 8 8 ⟨eh, eoff, none⟩ n ec (eps.map (Value.int .i64)) Try.underlying43 Try.one2 (hle.trans (unhide hmn)) (unhide hsre) (fun i hi => (unhide hthe i (by omega)).1) (fun i hi => (unhide hthe i (by omega)).2) hone
          go_wp2_with fail
          go_ret2
          refine ⟨b, g, rfl, hb1, hg1, ?_, (unhide hKj).setCells _ _ (by omega)⟩
          exact Dv.putE (unhide hDj) hen (by omega) (unhide HE) (unhide HM) hlm

set_option maxHeartbeats 2000000 in
set_option maxRecDepth 100000 in
theorem of_no (ao eo : Option Addr) (m c n ec : Nat) (eps : List Int) (w : World) (he : Vals w eo n ec (eps.map (Value.int .i64))) (hm : m ≤ 140737488355328) (hnn : n ≤ 140737488355328) (h : ofB m eps = false) :
    Calls Try.prog 15 #[.slice ao m c, .slice eo n ec] w fun e w' => e = .returned (.tuple #[.pointer none, .int .i64 2]) ∧ w' = w := by
  have hen := he.len
  rw [List.length_map] at hen
  go_enter Try.func15, Try.ntmps15
  go_wp2_with fail
  go_loopw [7, 13] (fun _ i wr => ∃ k : Nat, k ≤ n ∧ i = .int .i64 k ∧ wr = w ∧ Hid (∀ x ∈ eps.take k, 0 ≤ x ∧ x ≤ 2147483647)) (fun _ i _ => n - (intOf i).toNat)
  case atStart => exact ⟨0, by omega, rfl, rfl, by intro x hx; simp at hx⟩
  case round =>
    obtain ⟨k, hk, rfl, hww, hpre⟩ := hrel
    obtain rfl := hww.symm
    by_cases hlt : k < n
    · obtain ⟨e, he1⟩ : ∃ e, eps[k]? = some e := ⟨_, List.getElem?_eq_getElem (by omega)⟩
      obtain ⟨hh, off, rfl, hr⟩ := he.lies (by intro e; have h9 := congrArg List.length e; rw [List.length_map, List.length_nil] at h9; omega)
      have hce := hr k (.int .i64 e) (by simp [he1])
      have hF := from47 0 e 2147483647 w
      have he2 := hide he1
      clear he1 hr
      by_cases hre : 0 ≤ e ∧ e ≤ 2147483647
      · have hde : decide (0 ≤ e ∧ e ≤ 2147483647) = true := by simpa using hre
        rw [hde] at hF
        have HF := hide hF
        have HR := hide hre
        clear hde hF hre
        go_wp2_with (go_at_call 47; refine (unhide HF).mono ?_; rintro e w' ⟨rfl, rfl⟩)
        go_roundw
        case rel =>
          refine ⟨k + 1, by omega, by go_num, trivial, ?_⟩
          intro x hx
          rw [List.take_add_one, unhide he2] at hx
          rcases List.mem_append.1 hx with h1 | h1
          · exact unhide hpre x h1
          · simp at h1; rw [h1]; exact unhide HR
        case measure => simp [intOf]; omega
      · have hde : decide (0 ≤ e ∧ e ≤ 2147483647) = false := by simpa using hre
        rw [hde] at hF
        have HF := hide hF
        clear hde hF hre
        go_wp2_with (go_at_call 47; refine (unhide HF).mono ?_; rintro e w' ⟨rfl, rfl⟩)
        go_ret2
        exact ⟨rfl, rfl⟩
    · have hall : eps.all (fun e => decide (0 ≤ e ∧ e ≤ 2147483647)) = true := by
        rw [List.all_eq_true]
        intro x hx
        have := unhide hpre x (by rw [List.take_of_length_le (by omega)]; exact hx)
        simpa using this
      simp only [ofB, hall, Bool.true_and, hen] at h
      clear hall hpre
      by_cases h64 : m % 64 = 0
      · have hd : decide (m % 64 = 0) = true := by simpa using h64
        rw [hd, Bool.true_and] at h
        obtain ⟨M, hmM⟩ : ∃ M, m = M * 64 := ⟨m / 64, by omega⟩
        rw [hmM, Nat.mul_div_cancel _ (by decide)] at h
        have hrem : (m : Int) % 64 = 0 := by omega
        have hquo : (m : Int) / 64 = (M : Int) := by omega
        have HN := hide (new_no M n w h)
        clear hmM h hd h64
        go_wp2_with (go_at_call 8; refine (unhide HN).mono ?_; rintro e w' ⟨rfl, rfl⟩)
        go_ret2
        exact ⟨rfl, rfl⟩
      · have hrem : ((m : Int) % 64 != 0) = true := by simp; omega
        clear h
        go_wp2_with fail
        go_ret2
        exact ⟨rfl, rfl⟩

end Go.Proofs.Ytffflafalffifaa
