/-
  Write of the document's device, of any sectors. Steps of a script, as plain data; what do keeps. The walk of do: the plain kinds. The walk of do: Fence and Cut.
-/
import Derived.Test.YtffflafalffifaaRwr
import Derived.Test.YtffflafalffifaaTabw
import Derived.Test.YtffflafalffifaaCopy
import Derived.Test.YtffflafalffifaaFull
import Derived.Test.YtffflafalffifaaRsw
import Derived.Test.YtffflafalffifaaSam

namespace Go.Proofs.Ytffflafalffifaa
open Go.RowKit

theorem Secs.keptE {w w' : World} {ao : Option Addr} {n c : Nat} {L : List (List Int)} {X : List Nat} (h : Secs w ao n c L) (hk : Kept X w w') (ha : L ≠ [] → Away ao X) : Secs w' ao n c L := by
  refine ⟨h.len, h.sec, h.cap, fun hne => ?_⟩
  obtain ⟨b, off, e, hr⟩ := h.lies hne
  exact ⟨b, off, e, fun i hi j v hj => hk.cell (hr i hi j v hj) (ha hne b off e)⟩

set_option maxHeartbeats 4000000 in
set_option maxRecDepth 100000 in
theorem r_writeE (r sg eg : Nat) (D : Dev) (x ep f : Int) (ao : Option Addr) (n c : Nat) (L : List (List Int)) (w : World) (h : Rv w r sg eg D) (hf : -9223372036854775808 ≤ f ∧ f ≤ 9223372036854775807) (hn : n ≤ 9223372036854775807) (hL : Secs w ao n c L) (hA : L ≠ [] → Away ao [r, sg]) :
    Calls Try.prog 41 #[P0 r, .int .i64 x, .int .i64 ep, .int .i64 f, .slice ao n c] w fun e w' => e = .returned (.int .i64 (D.write x ep f L).1) ∧ Rv w' r sg eg (D.write x ep f L).2 ∧ Kept [r, sg] w w' := by
  have hlen := hL.len
  have hs1 := h.ok.s1
  obtain ⟨cap, ecap, c0, c1, c2, c3, c4, cf, hb, hec⟩ := h.cells
  have bad : D.ref x ep (hasS D.S.length f L.length) = 2 → D.write x ep f L = (2, D) := by
    intro h2
    simp only [Dev.write, h2]
    rfl
  by_cases hw0 : D.whoR x ep = 0
  · obtain ⟨hx, he0, he1⟩ := who_zero hw0
    have HW := hide (who_is r sg eg D x ep _ h 0 hw0)
    clear hw0
    by_cases hf0 : f < 0
    · rw [bad (ref_two (.inl (by simp [hasS]; omega)))]
      clear bad
      go_enter Try.func41, Try.ntmps41
      go_wp2_with (first | (go_at_call 59; refine (unhide HW).mono ?_; rintro e w' ⟨rfl, rfl⟩))
      go_ret
      exact ⟨rfl, h, Kept.refl _ _⟩
    · obtain ⟨F, rfl⟩ := Int.eq_ofNat_of_zero_le (show 0 ≤ f by omega)
      by_cases hF : D.S.length < F
      · rw [bad (ref_two (.inl (by simp [hasS]; omega)))]
        clear bad
        go_enter Try.func41, Try.ntmps41
        go_wp2_with (first | (go_at_call 59; refine (unhide HW).mono ?_; rintro e w' ⟨rfl, rfl⟩))
        go_ret
        exact ⟨rfl, h, Kept.refl _ _⟩
      · by_cases hlast : (D.S.length : Int) - F < n
        · rw [bad (ref_two (.inl (by simp [hasS]; omega)))]
          clear bad
          go_enter Try.func41, Try.ntmps41
          go_wp2_with (first | (go_at_call 59; refine (unhide HW).mono ?_; rintro e w' ⟨rfl, rfl⟩))
          go_ret
          exact ⟨rfl, h, Kept.refl _ _⟩
        · have hS : hasS D.S.length (F : Int) L.length = true := by simp [hasS]; omega
          obtain ⟨k0, rfl⟩ := Int.eq_ofNat_of_zero_le (hasN_true hx).1
          have hkN : k0 < D.N := by have := (hasN_true hx).2; omega
          have hck := h.epoch k0 hkN
          have hkI : (k0 : Int) < D.N := by omega
          clear bad
          by_cases hfen : ep < D.ep k0
          · have hU : D.write k0 ep F L = (8, D) := by
              have : D.ref k0 ep true = 8 := by simp [Dev.ref, hx, he0, he1, hfen]
              simp only [Dev.write, hS, this]; rfl
            rw [hU]
            clear hU
            go_enter Try.func41, Try.ntmps41
            go_wp2_with (first | (go_at_call 59; refine (unhide HW).mono ?_; rintro e w' ⟨rfl, rfl⟩))
            go_ret
            exact ⟨rfl, h, Kept.refl _ _⟩
          · have hr0 : D.ref k0 ep true = 0 := by simp [Dev.ref, hx, he0, he1]; omega
            have hU : D.write k0 ep F L = (0, D.rputs F L) := by simp [Dev.write, hS, hr0, rputs_eq]
            rw [hU]
            have hD0 := hide h
            clear hU hr0 hS
            go_enter Try.func41, Try.ntmps41
            go_wp2_with (first | (go_at_call 59; refine (unhide HW).mono ?_; rintro e w' ⟨rfl, rfl⟩))
            clear HW hck c0 c1 c2 c3 c4 cf hb hec hkN hkI
            go_loopw [11] (fun i wr => ∃ (k : Nat) (Dk : Dev), k ≤ n ∧ i = .int .i64 k ∧ Hid (Rv wr r sg eg Dk) ∧ Dk.S.length = D.S.length ∧ Hid (Dk.rputs (F + k) (L.drop k) = D.rputs F L) ∧ Hid (Kept [r, sg] w' wr)) (fun i _ => n - (intOf i).toNat)
            case atStart => exact ⟨0, D, by omega, rfl, hD0, rfl, rfl, Kept.refl _ _⟩
            case round =>
              obtain ⟨k, Dk, hkn, rfl, hDk, hSk, hPk, hKk⟩ := hrel
              by_cases hlt' : k < n
              · obtain ⟨s, hs⟩ : ∃ s, L[k]? = some s := ⟨_, List.getElem?_eq_getElem (by omega)⟩
                have hsec : Sec s := hL.sec s (List.mem_of_getElem? hs)
                obtain ⟨hb, off, rfl, hr⟩ := hL.lies (by intro e; simp [e] at hlen; omega)
                have hrk := hr k (by omega)
                have hgs : L[k]'(by omega) = s := by have := List.getElem?_eq_getElem (l := L) (i := k) (by omega); rw [this] at hs; simpa using hs
                rw [hgs] at hrk
                have hrr : wr.rangeAt hb (off + k * 64) (u8s s) := fun j v hj => (unhide hKk).cell (hrk j v hj) (hA (by intro e; simp [e] at hlen; omega) hb off rfl)
                have hAw := hA (by intro e; simp [e] at hlen; omega) hb off rfl
                have hdrop : L.drop k = s :: L.drop (k + 1) := by rw [List.drop_eq_getElem_cons (by omega), hgs]
                have hPs := unhide hPk
                rw [hdrop, Dev.rputs] at hPs
                have HDo := hide (r_does r sg eg Dk wr (unhide hDk))
                have hs3 := does_S Dk
                clear hr hrk hdrop hgs
                cases hd : Dk.does.2 with
                | true =>
                  rw [hd] at HDo
                  rw [hd, if_pos rfl] at hPs
                  have HPs := hide hPs
                  clear hPs hPk hs
                  go_wp2_with fail
                  refine (unhide HDo).mono ?_
                  rintro e w1 ⟨rfl, hd1, hk1⟩
                  obtain ⟨m, hm⟩ : ∃ m, m = F + k := ⟨_, rfl⟩
                  have hmI : (m : Int) < D.S.length := by omega
                  have hp := hide (hd1.drew.putS (k := m) (s := s) (by rw [hs3.1, hSk]; omega) hsec)
                  rw [hs3.1] at hp
                  obtain ⟨cap', ecap', c0', _, _, _, _, _, hb', _⟩ := hd1.cells
                  have hth := hb'.there hd1.ok.sec m (by rw [hs3.1, hSk]; omega)
                  rw [hs3.1, hSk] at c0'
                  have hrt : w1.rangeAt hb (off + k * 64) (u8s s) := fun j v hj => hk1.cell (hrr j v hj) (by simp at hAw ⊢; exact hAw.1)
                  have hkk : Hid (Kept [r, sg] w' w1) := (unhide hKk).trans (hk1.mono (by simp))
                  have hu := Try.underlying38
                  have hu8 : (u8s s).length = 64 := by rw [u8s_len, hsec.1]
                  have hsz : (Try.prog.info? 38).map (·.size) = some (u8s s).length := by rw [hu8]; exact Try.info38
                  have hone := u8s_one s
                  have hrsg := hd1.ne.1
                  have n0 : hb ≠ sg := by simp at hAw; exact hAw.2
                  have hwr : IntKind.i64.wrap ((F : Int) + (k : Int)) = (m : Int) := by rw [IntKind.wrap_i64]; omega
                  have hm0 : (0 : Int) ≤ (m : Int) := by omega
                  have hk0 : (0 : Int) ≤ (k : Int) := by omega
                  have hkI : (k : Int) < (n : Int) := by omega
                  have hsl : Dk.does.1.S.length = D.S.length := by rw [hs3.1, hSk]
                  have Hm := hide hm
                  clear HDo hrr hb' hAw hm
                  go_wp2_with fail
                  go_region_held3 (fun w' => w'.cell? ⟨r, 0, none⟩ = some (.slice (some ⟨sg, 0, none⟩) D.S.length cap') ∧ w'.rangeAt hb (off + k * 64) (u8s s) ∧ w'.there sg (m * 64) 64)
                    (first | (go_keep_ranges; done) | (go_keep; done) | (go_split_ands; simp only [World.rangeAt_drew, World.there_drew] at *; refine ⟨cell_sets_ne hrsg (by assumption), World.rangeAt_setCells_apart (by assumption) _ _ _ (.inl n0), World.there_setCells (by assumption) _ _ _⟩)) (fail)
                  all_goals go_wp2_with fail
                  go_roundw
                  case rel =>
                    refine ⟨k + 1, _, by omega, by go_num, hp, by simp [hSk], ?_, (unhide hkk).drew.setCells _ _ (by simp)⟩
                    rw [unhide Hm, ← Nat.add_assoc]
                    exact HPs
                  case measure => simp [intOf]; omega
                | false =>
                  rw [hd] at HDo
                  rw [hd, if_neg (by simp)] at hPs
                  have HPs := hide hPs
                  clear hPs hPk hs
                  go_wp2_with (go_at_call 60; refine (unhide HDo).mono ?_; rintro e w1 ⟨rfl, hd1, hk1⟩)
                  go_roundw
                  case rel => exact ⟨k + 1, _, by omega, by go_num, hd1, by rw [hs3.1]; exact hSk, by rw [← Nat.add_assoc]; exact HPs, (unhide hKk).trans (hk1.mono (by simp))⟩
                  case measure => simp [intOf]; omega
              · go_wp2_with fail
                go_ret
                have : L.drop k = [] := List.drop_eq_nil_of_le (by omega)
                have hp := unhide hPk
                rw [this] at hp
                simp only [Dev.rputs] at hp
                exact ⟨rfl, hp ▸ unhide hDk, unhide hKk⟩
  · obtain ⟨hw2, hno⟩ := who_two hw0
    rw [bad (ref_two (.inr hno))]
    have HW := hide (who_is r sg eg D x ep _ h 2 hw2)
    clear bad hw0 hw2
    go_enter Try.func41, Try.ntmps41
    go_wp2_with (first | (go_at_call 59; refine (unhide HW).mono ?_; rintro e w' ⟨rfl, rfl⟩))
    go_ret
    exact ⟨rfl, h, Kept.refl _ _⟩

end Go.Proofs.Ytffflafalffifaa

namespace Go.Proofs.Ytffflafalffifaa.K
open Go.RowKit

/-- A step. -/
structure Sx where
  kd : Int
  nn : Int
  aa : Int
  ee : Int
  bb : Int
  ao : Option Addr
  m : Nat
  c : Nat
  L : List (List Int)
  was : List Int
  is : List Int
def Sx.C (x : Sx) : List Value := [.int .i64 x.kd, .int .i64 x.nn, .int .i64 x.aa, .int .i64 x.ee, .int .i64 x.bb, .slice x.ao x.m x.c] ++ u8s x.was ++ u8s x.is
def I64 (n : Int) : Prop := -9223372036854775808 ≤ n ∧ n ≤ 9223372036854775807
/-- What a step that came in is. -/
structure Sx.Ok (x : Sx) (w : World) (B : Nat) : Prop where
  aa : I64 x.aa
  bb : I64 x.bb
  secs : Secs w x.ao x.m x.c x.L
  was : Sec x.was
  is : Sec x.is
  m : x.m ≤ 1048576
  nil : x.ao = none → x.m = 0 ∧ x.c = 0
  old : x.L ≠ [] → ∀ h off, x.ao = some ⟨h, off, none⟩ → h < B
theorem Sx.Ok.kept {x : Sx} {w w' : World} {B : Nat} {X : List Nat} (h : x.Ok w B) (hk : Kept X w w') (hX : ∀ k ∈ X, B ≤ k) : x.Ok w' B :=
  ⟨h.aa, h.bb, h.secs.keptE hk (fun hne b off e hm => by have := h.old hne b off e; have := hX b hm; omega), h.was, h.is, h.m, h.nil, h.old⟩
theorem C_len {x : Sx} {w : World} {B : Nat} (h : x.Ok w B) : x.C.length = 134 := by simp [Sx.C, u8s_len, h.was.1, h.is.1]
theorem row40 : Row 40 134 := ⟨_, Try.underlying40, rfl, by kernel_rfl⟩
/-- The device behind a step. -/
def Dev.plain (D : Dev) : Dev := ⟨D.S, D.N, D.E, 0, false, 0, false⟩
def Dev.next (D : Dev) (x : Sx) : Dev :=
  if x.kd = 1 then (D.write x.nn x.ee x.aa x.L).2 else if x.kd = 2 then (D.swap x.nn x.ee x.aa x.was x.is).2.2 else if x.kd = 3 then (D.up x.nn).2.2 else if x.kd = 4 then (D.fence x.nn x.ee x.aa x.bb).2
  else if x.kd = 5 then (D.cut x.aa).2 else if x.kd = 6 then D.uncut else if x.kd = 8 then Dev.plain D else D
/-- The blocks of both devices are apart, and none is elder than B. -/
structure Ap (B b g r sg eg : Nat) : Prop where
  ge : B ≤ b ∧ B ≤ g ∧ B ≤ r ∧ B ≤ sg ∧ B ≤ eg
  ne : b ≠ r ∧ b ≠ sg ∧ b ≠ eg ∧ g ≠ r ∧ g ≠ sg ∧ g ≠ eg
/-- What is there behind a step is what was there, or new. -/
def Frs (w : World) (b g r sg eg b' g' r' sg' eg' : Nat) : Prop := (b' = b ∨ w.heap.size ≤ b') ∧ (g' = g ∨ w.heap.size ≤ g') ∧ (r' = r ∨ w.heap.size ≤ r') ∧ (sg' = sg ∨ w.heap.size ≤ sg') ∧ (eg' = eg ∨ w.heap.size ≤ eg')
theorem Frs.same (w : World) (b g r sg eg : Nat) : Frs w b g r sg eg b g r sg eg := ⟨.inl rfl, .inl rfl, .inl rfl, .inl rfl, .inl rfl⟩
/-- What do leaves. -/
def DoR (B b g r sg eg : Nat) (D' : Dev) (w : World) (e : Ending) (w' : World) : Prop := ∃ b' g' r' sg' eg', e = .returned (.tuple #[P0 b', P0 r', .bool true]) ∧ Dv w' b' g' D' ∧ Rv w' r' sg' eg' D' ∧ Ap B b' g' r' sg' eg' ∧ Kept [b, g, r, sg, eg] w w' ∧ Frs w b g r sg eg b' g' r' sg' eg'
/-- What do keeps while it goes. -/
structure Dg (w W : World) (b g r sg eg : Nat) (D1 D2 : Dev) (b5 : Nat) (x : Sx) : Prop where
  dv : Dv W b g D1
  rv : Rv W r sg eg D2
  x5 : Blk W b5 40 x.C
  k : Kept [b, g, r, sg, eg] w W
  new : w.heap.size ≤ b5
section
variable {w W W' : World} {B b g r sg eg : Nat} {D1 D2 D' : Dev} {b5 : Nat} {x : Sx}
theorem Dg.apart {D1' D2' : Dev} (h : Dg w W b g r sg eg D1 D2 b5 x) (hD : Dv w b g D1') (hR : Rv w r sg eg D2') : b5 ≠ b ∧ b5 ≠ g ∧ b5 ≠ r ∧ b5 ≠ sg ∧ b5 ≠ eg := by
  have h1 := hD.lt
  have h2 := hR.lt
  have h3 := h.new
  omega
end
section
variable {w W W' : World} {B b g r sg eg : Nat} {D1 D2 D' : Dev} {b5 : Nat} {x : Sx}
theorem Dg.step (h : Dg w W b g r sg eg D1 D2 b5 x) (hk : Kept [] W W') : Dg w W' b g r sg eg D1 D2 b5 x :=
  ⟨h.dv.kept hk (by simp) (by simp), h.rv.kept hk (by simp) (by simp) (by simp), h.x5.kept hk (by simp), h.k.trans (hk.mono (by simp)), h.new⟩
theorem Dg.dstep (h : Dg w W b g r sg eg D1 D2 b5 x) (ap : Ap B b g r sg eg) (n5 : b5 ≠ b ∧ b5 ≠ g ∧ b5 ≠ r ∧ b5 ≠ sg ∧ b5 ≠ eg) (hd : Dv W' b g D') (hk : Kept [b, g] W W') : Dg w W' b g r sg eg D' D2 b5 x := by
  have hn := ap.ne
  refine ⟨hd, h.rv.kept hk (by simp; omega) (by simp; omega) (by simp; omega), h.x5.kept hk (by simp; omega), h.k.trans (hk.mono ?_), h.new⟩
  intro k hk
  simp at hk ⊢
  omega
theorem Dg.rstep {Y : List Nat} (h : Dg w W b g r sg eg D1 D2 b5 x) (ap : Ap B b g r sg eg) (n5 : b5 ≠ b ∧ b5 ≠ g ∧ b5 ≠ r ∧ b5 ≠ sg ∧ b5 ≠ eg) (hr : Rv W' r sg eg D') (hk : Kept Y W W') (hY : ∀ k ∈ Y, k = r ∨ k = sg ∨ k = eg) : Dg w W' b g r sg eg D1 D' b5 x := by
  have hn := ap.ne
  refine ⟨h.dv.kept hk (fun hm => ?_) (fun hm => ?_), hr, h.x5.kept hk (fun hm => ?_), h.k.trans (hk.mono ?_), h.new⟩
  · have := hY _ hm; omega
  · have := hY _ hm; omega
  · have := hY _ hm; omega
  · intro k hk
    have := hY _ hk
    simp
    omega
end
theorem x_cells {W : World} {b5 : Nat} {x : Sx} (h : Blk W b5 40 x.C) : W.cell? ⟨b5, 0, none⟩ = some (.int .i64 x.kd) ∧ W.cell? ⟨b5, 1, none⟩ = some (.int .i64 x.nn) ∧ W.cell? ⟨b5, 2, none⟩ = some (.int .i64 x.aa) ∧ W.cell? ⟨b5, 3, none⟩ = some (.int .i64 x.ee) ∧ W.cell? ⟨b5, 4, none⟩ = some (.int .i64 x.bb) ∧ W.cell? ⟨b5, 5, none⟩ = some (.slice x.ao x.m x.c) :=
  ⟨fits_cell h 0 _ rfl, fits_cell h 1 _ rfl, fits_cell h 2 _ rfl, fits_cell h 3 _ rfl, fits_cell h 4 _ rfl, fits_cell h 5 _ rfl⟩
theorem x_was {W : World} {b5 : Nat} {x : Sx} (h : Blk W b5 40 x.C) : W.rangeAt b5 6 (u8s x.was) := h.rangeIn _ (fun j hj => by
  unfold Sx.C
  rw [List.append_assoc, List.getElem?_append_right (by simp), List.getElem?_append_left (by simpa using hj)]
  simp)
theorem x_is {W : World} {b5 : Nat} {x : Sx} {w : World} {B : Nat} (hok : x.Ok w B) (h : Blk W b5 40 x.C) : W.rangeAt b5 70 (u8s x.is) := h.rangeIn _ (fun j hj => by
  unfold Sx.C
  rw [List.getElem?_append_right (by simp [u8s_len, hok.was.1])]
  congr 1
  simp [u8s_len, hok.was.1])
section
variable {ops : Array Oper} {rest : List Oper} {op : Oper} {a : Act} {w : World} {Q : Exit → Act → World → Prop}
theorem wpEql2S (hgd : op.guard = none) (x y : Operand) (ho : op.op = .binOp .eql 2 x y 2) (m : Int) (hx : a.eval x = .int .i64 m) (hy : a.eval y = .int .i64 m) (h : wpList Try.prog ops Q rest (a.put op.dst (.bool true)) w) : wpList Try.prog ops Q (op :: rest) a w :=
  wpList_plain hgd fun K hK => o_eql2v x y ho m m true (by simp) hx hy (hK _ _ h)
theorem wpEql3G (x y : Operand) (ho : op.op = .binOp .eql 3 x y 3) (hw : Region.wanted op (yielded ops a.tmps) = true) (m : Int) (hx : a.eval x = .int .i64 m) (hy : a.eval y = .int .i64 m) (h : wpList Try.prog ops Q rest (a.put op.dst (.bool true)) w) : wpList Try.prog ops Q (op :: rest) a w :=
  BigFrame.wpList_want hw fun K hK => o_eql3v x y ho m m true (by simp) hx hy (hK _ _ h)
theorem o_eql4v {o : Oper} {a : Act} {w : World} {K : Act → World → Prop} {Q : Exit → Act → World → Prop} (x y : Operand) (ho : o.op = .binOp .eql 4 x y 4) (m : Bool) (hx : a.eval x = .bool m) (hy : a.eval y = .bool m) (h : K (a.put o.dst (.bool true)) w) : o.wp Try.prog a w K Q := by
  unfold Oper.wp execOp
  simp only [ho, hx, hy]
  cases m <;> (simp [go_sem]; exact h)
theorem wpEql4S (hgd : op.guard = none) (x y : Operand) (ho : op.op = .binOp .eql 4 x y 4) (m : Bool) (hx : a.eval x = .bool m) (hy : a.eval y = .bool m) (h : wpList Try.prog ops Q rest (a.put op.dst (.bool true)) w) : wpList Try.prog ops Q (op :: rest) a w :=
  wpList_plain hgd fun _ hK => o_eql4v x y ho m hx hy (hK _ _ h)
end
section
variable {o : Oper} {a : Act} {w : World} {K : Act → World → Prop} {Q : Exit → Act → World → Prop}
theorem o_fld40_0 (x : Operand) (ho : o.op = .fieldAddr 40 x 0) (b : Nat) (hx : a.eval x = P0 b) (h : K (a.put o.dst (.pointer (some ⟨b, 0, none⟩))) w) : o.wp Try.prog a w K Q := by
  unfold Oper.wp execOp
  simp only [ho, hx]
  simp [go_sem]
  exact h
theorem o_fld40_1 (x : Operand) (ho : o.op = .fieldAddr 40 x 1) (b : Nat) (hx : a.eval x = P0 b) (h : K (a.put o.dst (.pointer (some ⟨b, 1, none⟩))) w) : o.wp Try.prog a w K Q := by
  unfold Oper.wp execOp
  simp only [ho, hx]
  simp [go_sem]
  exact h
theorem o_fld40_2 (x : Operand) (ho : o.op = .fieldAddr 40 x 2) (b : Nat) (hx : a.eval x = P0 b) (h : K (a.put o.dst (.pointer (some ⟨b, 2, none⟩))) w) : o.wp Try.prog a w K Q := by
  unfold Oper.wp execOp
  simp only [ho, hx]
  simp [go_sem]
  exact h
theorem o_fld40_3 (x : Operand) (ho : o.op = .fieldAddr 40 x 3) (b : Nat) (hx : a.eval x = P0 b) (h : K (a.put o.dst (.pointer (some ⟨b, 3, none⟩))) w) : o.wp Try.prog a w K Q := by
  unfold Oper.wp execOp
  simp only [ho, hx]
  simp [go_sem]
  exact h
theorem o_fld40_4 (x : Operand) (ho : o.op = .fieldAddr 40 x 4) (b : Nat) (hx : a.eval x = P0 b) (h : K (a.put o.dst (.pointer (some ⟨b, 4, none⟩))) w) : o.wp Try.prog a w K Q := by
  unfold Oper.wp execOp
  simp only [ho, hx]
  simp [go_sem]
  exact h
theorem o_fld40_5 (x : Operand) (ho : o.op = .fieldAddr 40 x 5) (b : Nat) (hx : a.eval x = P0 b) (h : K (a.put o.dst (.pointer (some ⟨b, 5, none⟩))) w) : o.wp Try.prog a w K Q := by
  unfold Oper.wp execOp
  simp only [ho, hx]
  simp [go_sem]
  exact h
theorem o_fld40_6 (x : Operand) (ho : o.op = .fieldAddr 40 x 6) (b : Nat) (hx : a.eval x = P0 b) (h : K (a.put o.dst (.pointer (some ⟨b, 6, none⟩))) w) : o.wp Try.prog a w K Q := by
  unfold Oper.wp execOp
  simp only [ho, hx]
  simp [go_sem]
  exact h
theorem o_fld40_7 (x : Operand) (ho : o.op = .fieldAddr 40 x 7) (b : Nat) (hx : a.eval x = P0 b) (h : K (a.put o.dst (.pointer (some ⟨b, 70, none⟩))) w) : o.wp Try.prog a w K Q := by
  unfold Oper.wp execOp
  simp only [ho, hx]
  simp [go_sem]
  exact h
end
theorem ch24 (vs : Array Value) (w : World) : (callFunc 24 vs).run Try.prog w = .ok (.enter 24 vs) w := by kernel_rfl
theorem ch25 (vs : Array Value) (w : World) : (callFunc 25 vs).run Try.prog w = .ok (.enter 25 vs) w := by kernel_rfl
theorem ch27 (vs : Array Value) (w : World) : (callFunc 27 vs).run Try.prog w = .ok (.enter 27 vs) w := by kernel_rfl
theorem ch30 (vs : Array Value) (w : World) : (callFunc 30 vs).run Try.prog w = .ok (.enter 30 vs) w := by kernel_rfl
theorem ch41 (vs : Array Value) (w : World) : (callFunc 41 vs).run Try.prog w = .ok (.enter 41 vs) w := by kernel_rfl
theorem ch42 (vs : Array Value) (w : World) : (callFunc 42 vs).run Try.prog w = .ok (.enter 42 vs) w := by kernel_rfl
theorem ch43 (vs : Array Value) (w : World) : (callFunc 43 vs).run Try.prog w = .ok (.enter 43 vs) w := by kernel_rfl
theorem ch44 (vs : Array Value) (w : World) : (callFunc 44 vs).run Try.prog w = .ok (.enter 44 vs) w := by kernel_rfl
theorem ch45 (vs : Array Value) (w : World) : (callFunc 45 vs).run Try.prog w = .ok (.enter 45 vs) w := by kernel_rfl
theorem ch46 (vs : Array Value) (w : World) : (callFunc 46 vs).run Try.prog w = .ok (.enter 46 vs) w := by kernel_rfl
theorem ch23 (vs : Array Value) (w : World) : (callFunc 23 vs).run Try.prog w = .ok (.enter 23 vs) w := by kernel_rfl

end Go.Proofs.Ytffflafalffifaa.K

namespace Go.Proofs.Ytffflafalffifaa.K
open Go.RowKit

theorem res14 (w : World) (tmps : Array Value) (u v y : Value) (h6 : tmps[6]?.getD undef = u) (h7 : tmps[7]?.getD undef = v) (h8 : tmps[8]?.getD undef = y) : (results Try.f14 tmps).run Try.prog w = .ok (.tuple #[u, v, y]) w := by
  simp [results, Try.results14, h6, h7, h8]
set_option maxHeartbeats 2000000 in
set_option maxRecDepth 100000 in
theorem do_3 (B b g r sg eg : Nat) (D : Dev) (x : Sx) (w : World) (hD : Dv w b g D) (hR : Rv w r sg eg D) (ap : Ap B b g r sg eg) (hx : x.Ok w B) (hk : x.kd = 3) : Calls Try.prog 14 #[P0 b, P0 r, aggV x.C] w (DoR B b g r sg eg ((D.up x.nn).2.2) w) := by
  obtain ⟨u1, u2, D', hU⟩ : ∃ u1 u2 D', D.up x.nn = (u1, u2, D') := ⟨_, _, _, rfl⟩
  have P27 := hide (fun W (h : Dv W b g D) => up27 b g D x.nn W h)
  have P43 := hide (fun W (h : Rv W r sg eg D) => r_up r sg eg D x.nn W h)
  rw [hU] at P27 P43 ⊢
  clear hU
  have hlC := C_len hx
  have HX := hide hx
  have HD := hide hD
  have HR := hide hR
  have HA := hide ap
  have HK := hide hk
  clear hk
  clear hD hR ap hx
  go_enter Try.func14, Try.ntmps14
  go_wp2_with (
    first
    | (refine wpBoxV (by rfl) (.tmp 2) (by rfl) x.C (by rfl) ?_
       intro W1 b5 e1 B1 K1
       have G : Hid (Dg w W1 b g r sg eg D D b5 x) := ⟨(unhide HD).kept K1 (by simp) (by simp), (unhide HR).kept K1 (by simp) (by simp) (by simp), B1, K1.mono (by simp), by omega⟩
       have N5 := hide ((unhide G).apart (unhide HD) (unhide HR))
       obtain ⟨q0, q1, q2, q3, q4, q5⟩ := x_cells (unhide G).x5
       rw [unhide HK] at q0
       clear e1 B1 K1
       refine Stp.go ?_))
  constructor
  go_wp2_with (
    first
    | (go_at_call 27
       refine (unhide P27 _ (unhide G).dv).mono ?_
       rintro e V1 ⟨rfl, d1, k1⟩
       replace G := hide ((unhide G).dstep (unhide HA) (unhide N5) d1 k1)
       clear q0 q1 q2 q3 q4 q5 d1 k1
       obtain ⟨q0, q1, q2, q3, q4, q5⟩ := x_cells (unhide G).x5
       refine Stp.go ?_))
  constructor
  go_wp2_with (
    first
    | (go_at_call 43
       refine (unhide P43 _ (unhide G).rv).mono ?_
       rintro e V2 ⟨rfl, d2, k2⟩
       replace G := hide ((unhide G).rstep (unhide HA) (unhide N5) d2 k2 (by simp))
       clear q0 q1 q2 q3 q4 q5 d2 k2
       obtain ⟨q0, q1, q2, q3, q4, q5⟩ := x_cells (unhide G).x5
       refine Stp.go ?_))
  constructor
  go_wp2_with (
    first
    | (refine wpEql2S (by rfl) (.tmp 159) (.tmp 160) (by rfl) u1 (by kernel_rfl) (by kernel_rfl) ?_
       refine Stp.go ?_))
  constructor
  go_wp2_with (
    first
    | (go_at_call 10; refine (num10 _ _).mono ?_; rintro e w' ⟨rfl, hww⟩; obtain rfl := hww.symm; clear hww
       refine Stp.go ?_))
  constructor
  go_wp2_with (
    first
    | (refine wpEql3G (.tmp 164) (.tmp 165) (by rfl) (by kernel_rfl) u2 (by kernel_rfl) (by kernel_rfl) ?_))
  exact bodyPost_ret (res14 _ _ _ _ _ rfl rfl rfl) rfl ⟨b, g, r, sg, eg, rfl, (unhide G).dv, (unhide G).rv, unhide HA, (unhide G).k, Frs.same _ _ _ _ _ _⟩
set_option maxHeartbeats 2000000 in
set_option maxRecDepth 100000 in
theorem do_2 (B b g r sg eg : Nat) (D : Dev) (x : Sx) (w : World) (hD : Dv w b g D) (hR : Rv w r sg eg D) (ap : Ap B b g r sg eg) (hx : x.Ok w B) (hk : x.kd = 2) : Calls Try.prog 14 #[P0 b, P0 r, aggV x.C] w (DoR B b g r sg eg ((D.swap x.nn x.ee x.aa x.was x.is).2.2) w) := by
  obtain ⟨u1, u2, D', hU⟩ : ∃ u1 u2 D', D.swap x.nn x.ee x.aa x.was x.is = (u1, u2, D') := ⟨_, _, _, rfl⟩
  have P30 := hide (fun W (h : Dv W b g D) => swap30 b g D x.nn x.ee x.aa x.was x.is W h hx.aa hx.was hx.is)
  have P42 := hide (fun W (h : Rv W r sg eg D) => r_swap r sg eg D x.nn x.ee x.aa x.was x.is W h hx.was hx.is)
  rw [hU] at P30 P42 ⊢
  clear hU
  have lw := sec_u8 hx.was
  have li := sec_u8 hx.is
  have hlC := C_len hx
  have HX := hide hx
  have HD := hide hD
  have HR := hide hR
  have HA := hide ap
  have HK := hide hk
  clear hk
  clear hD hR ap hx
  go_enter Try.func14, Try.ntmps14
  go_wp2_with (
    first
    | (refine wpBoxV (by rfl) (.tmp 2) (by rfl) x.C (by rfl) ?_
       intro W1 b5 e1 B1 K1
       have G : Hid (Dg w W1 b g r sg eg D D b5 x) := ⟨(unhide HD).kept K1 (by simp) (by simp), (unhide HR).kept K1 (by simp) (by simp) (by simp), B1, K1.mono (by simp), by omega⟩
       have N5 := hide ((unhide G).apart (unhide HD) (unhide HR))
       obtain ⟨q0, q1, q2, q3, q4, q5⟩ := x_cells (unhide G).x5
       rw [unhide HK] at q0
       clear e1 B1 K1
       refine Stp.go ?_))
  constructor
  go_wp2_with (
    first
    | (refine wpLoadA row38 (by rfl) (.tmp 108) (by rfl) b5 6 (by kernel_rfl) (u8s x.was) lw (x_was (unhide G).x5) ?_
       refine Stp.go ?_))
  constructor
  go_wp2_with (
    first
    | (refine wpLoadA row38 (by rfl) (.tmp 110) (by rfl) b5 70 (by kernel_rfl) (u8s x.is) li (x_is (unhide HX) (unhide G).x5) ?_
       refine Stp.go ?_))
  constructor
  go_wp2_with (
    first
    | (go_at_call 30
       refine (unhide P30 _ (unhide G).dv).mono ?_
       rintro e V1 ⟨rfl, d1, k1⟩
       replace G := hide ((unhide G).dstep (unhide HA) (unhide N5) d1 k1)
       clear q0 q1 q2 q3 q4 q5 d1 k1
       obtain ⟨q0, q1, q2, q3, q4, q5⟩ := x_cells (unhide G).x5
       refine Stp.go ?_))
  constructor
  go_wp2_with (
    first
    | (refine wpLoadA row38 (by rfl) (.tmp 123) (by rfl) b5 6 (by kernel_rfl) (u8s x.was) lw (x_was (unhide G).x5) ?_
       refine Stp.go ?_))
  constructor
  go_wp2_with (
    first
    | (refine wpLoadA row38 (by rfl) (.tmp 125) (by rfl) b5 70 (by kernel_rfl) (u8s x.is) li (x_is (unhide HX) (unhide G).x5) ?_
       refine Stp.go ?_))
  constructor
  go_wp2_with (
    first
    | (go_at_call 42
       refine (unhide P42 _ (unhide G).rv).mono ?_
       rintro e V2 ⟨rfl, d2, k2⟩
       replace G := hide ((unhide G).rstep (unhide HA) (unhide N5) d2 k2 (by simp))
       clear q0 q1 q2 q3 q4 q5 d2 k2
       obtain ⟨q0, q1, q2, q3, q4, q5⟩ := x_cells (unhide G).x5
       refine Stp.go ?_))
  constructor
  go_wp2_with (
    first
    | (refine wpEql4S (by rfl) (.tmp 132) (.tmp 133) (by rfl) u1 (by kernel_rfl) (by kernel_rfl) ?_
       refine Stp.go ?_))
  constructor
  go_wp2_with (
    first
    | (go_at_call 10; refine (num10 _ _).mono ?_; rintro e w' ⟨rfl, hww⟩; obtain rfl := hww.symm; clear hww
       refine Stp.go ?_))
  constructor
  go_wp2_with (
    first
    | (refine wpEql3G (.tmp 137) (.tmp 138) (by rfl) (by kernel_rfl) u2 (by kernel_rfl) (by kernel_rfl) ?_))
  exact bodyPost_ret (res14 _ _ _ _ _ rfl rfl rfl) rfl ⟨b, g, r, sg, eg, rfl, (unhide G).dv, (unhide G).rv, unhide HA, (unhide G).k, Frs.same _ _ _ _ _ _⟩
set_option maxHeartbeats 2000000 in
set_option maxRecDepth 100000 in
theorem do_6 (B b g r sg eg : Nat) (D : Dev) (x : Sx) (w : World) (hD : Dv w b g D) (hR : Rv w r sg eg D) (ap : Ap B b g r sg eg) (hx : x.Ok w B) (hk : x.kd = 6) : Calls Try.prog 14 #[P0 b, P0 r, aggV x.C] w (DoR B b g r sg eg (D.uncut) w) := by
  have hlC := C_len hx
  have HX := hide hx
  have HD := hide hD
  have HR := hide hR
  have HA := hide ap
  have HK := hide hk
  clear hk
  clear hD hR ap hx
  go_enter Try.func14, Try.ntmps14
  go_wp2_with (
    first
    | (refine wpBoxV (by rfl) (.tmp 2) (by rfl) x.C (by rfl) ?_
       intro W1 b5 e1 B1 K1
       have G : Hid (Dg w W1 b g r sg eg D D b5 x) := ⟨(unhide HD).kept K1 (by simp) (by simp), (unhide HR).kept K1 (by simp) (by simp) (by simp), B1, K1.mono (by simp), by omega⟩
       have N5 := hide ((unhide G).apart (unhide HD) (unhide HR))
       obtain ⟨q0, q1, q2, q3, q4, q5⟩ := x_cells (unhide G).x5
       rw [unhide HK] at q0
       clear e1 B1 K1
       refine Stp.go ?_))
  constructor
  go_wp2_with (
    first
    | (go_at_call 20
       refine (whole20 b g D _ (unhide G).dv).mono ?_
       rintro e V1 ⟨rfl, d1, k1⟩
       replace G := hide ((unhide G).dstep (unhide HA) (unhide N5) d1 k1)
       clear q0 q1 q2 q3 q4 q5 d1 k1
       obtain ⟨q0, q1, q2, q3, q4, q5⟩ := x_cells (unhide G).x5
       refine Stp.go ?_))
  constructor
  go_wp2_with (
    first
    | (go_at_call 46
       refine (r_whole r sg eg D _ (unhide G).rv).mono ?_
       rintro e V2 ⟨rfl, d2, k2⟩
       replace G := hide ((unhide G).rstep (unhide HA) (unhide N5) d2 k2 (by simp))
       clear q0 q1 q2 q3 q4 q5 d2 k2
       obtain ⟨q0, q1, q2, q3, q4, q5⟩ := x_cells (unhide G).x5
       refine Stp.go ?_))
  constructor
  go_wp2_with (
    first
    | (refine wpEql4S (by rfl) (.tmp 213) (.tmp 215) (by rfl) (!D.lost) (by kernel_rfl) (by kernel_rfl) ?_))
  exact bodyPost_ret (res14 _ _ _ _ _ rfl rfl rfl) rfl ⟨b, g, r, sg, eg, rfl, (unhide G).dv, (unhide G).rv, unhide HA, (unhide G).k, Frs.same _ _ _ _ _ _⟩
set_option maxHeartbeats 2000000 in
set_option maxRecDepth 100000 in
theorem do_0 (B b g r sg eg : Nat) (D : Dev) (x : Sx) (w : World) (hD : Dv w b g D) (hR : Rv w r sg eg D) (ap : Ap B b g r sg eg) (hx : x.Ok w B) (hk : x.kd ≠ 1 ∧ x.kd ≠ 2 ∧ x.kd ≠ 3 ∧ x.kd ≠ 4 ∧ x.kd ≠ 5 ∧ x.kd ≠ 6 ∧ x.kd ≠ 7 ∧ x.kd ≠ 8) : Calls Try.prog 14 #[P0 b, P0 r, aggV x.C] w (DoR B b g r sg eg (D) w) := by
  obtain ⟨h1, h2, h3, h4, h5, h6, h7, h8⟩ := hk
  have hlC := C_len hx
  have HX := hide hx
  have HD := hide hD
  have HR := hide hR
  have HA := hide ap
  clear hD hR ap hx
  go_enter Try.func14, Try.ntmps14
  go_wp2_with (
    first
    | (refine wpBoxV (by rfl) (.tmp 2) (by rfl) x.C (by rfl) ?_
       intro W1 b5 e1 B1 K1
       have G : Hid (Dg w W1 b g r sg eg D D b5 x) := ⟨(unhide HD).kept K1 (by simp) (by simp), (unhide HR).kept K1 (by simp) (by simp) (by simp), B1, K1.mono (by simp), by omega⟩
       have N5 := hide ((unhide G).apart (unhide HD) (unhide HR))
       obtain ⟨q0, q1, q2, q3, q4, q5⟩ := x_cells (unhide G).x5
       clear e1 B1 K1))
  exact bodyPost_ret (res14 _ _ _ _ _ rfl rfl rfl) rfl ⟨b, g, r, sg, eg, rfl, (unhide G).dv, (unhide G).rv, unhide HA, (unhide G).k, Frs.same _ _ _ _ _ _⟩
/-- What a region keeps that calls d (at place c1) and the document's (at place c2). -/
structure Jw (w : World) (b g r sg eg : Nat) (D D' : Dev) (b5 : Nat) (x : Sx) (c1 c2 : Nat) (l : Array Bool) (W : World) : Prop where
  dv : Dv W b g (if l.getD c1 false = true then D' else D)
  rv : Rv W r sg eg (if l.getD c2 false = true then D' else D)
  x5 : Blk W b5 40 x.C
  k : Kept [b, g, r, sg, eg] w W
section
variable {w W W' : World} {B b g r sg eg : Nat} {D D' : Dev} {b5 : Nat} {x : Sx} {c1 c2 : Nat} {l : Array Bool}
theorem getD_oth {l : Array Bool} {i j : Nat} (h : i ≠ j) : (l.setIfInBounds j true).getD i false = l.getD i false := by
  simp only [Array.getD_eq_getD_getElem?]
  rw [Array.getElem?_setIfInBounds_ne (Ne.symm h)]
theorem getD_own {l : Array Bool} {j : Nat} (h : j < l.size) : (l.setIfInBounds j true).getD j false = true := by
  simp only [Array.getD_eq_getD_getElem?]
  rw [Array.getElem?_setIfInBounds_self_of_lt h]
  rfl
theorem Jw.same (h : Jw w b g r sg eg D D' b5 x c1 c2 l W) (j : Nat) (h1 : c1 ≠ j) (h2 : c2 ≠ j) : Jw w b g r sg eg D D' b5 x c1 c2 (l.setIfInBounds j true) W :=
  ⟨by rw [getD_oth h1]; exact h.dv, by rw [getD_oth h2]; exact h.rv, h.x5, h.k⟩
end

end Go.Proofs.Ytffflafalffifaa.K

namespace Go.Proofs.Ytffflafalffifaa.K
open Go.RowKit

section
variable {w W W' : World} {B b g r sg eg : Nat} {D D' : Dev} {b5 : Nat} {x : Sx} {c1 c2 : Nat} {l : Array Bool}
theorem Jw.dv0 (h : Jw w b g r sg eg D D' b5 x c1 c2 l W) (hf : l.getD c1 false = false) : Dv W b g D := by
  have := h.dv
  rw [hf] at this
  exact this
theorem Jw.rv0 (h : Jw w b g r sg eg D D' b5 x c1 c2 l W) (hf : l.getD c2 false = false) : Rv W r sg eg D := by
  have := h.rv
  rw [hf] at this
  exact this
theorem Jw.init (n : Nat) (hD : Dv W b g D) (hR : Rv W r sg eg D) (h5 : Blk W b5 40 x.C) (hk : Kept [b, g, r, sg, eg] w W) : Jw w b g r sg eg D D' b5 x c1 c2 (Array.replicate n false) W := by
  have hrep : ∀ j, (Array.replicate n false).getD j false = false := by
    intro j
    rw [Array.getD_eq_getD_getElem?, Array.getElem?_replicate]
    split <;> rfl
  exact ⟨by rw [hrep]; exact hD, by rw [hrep]; exact hR, h5, hk⟩
theorem Jw.dcall (h : Jw w b g r sg eg D D' b5 x c1 c2 l W) (ap : Ap B b g r sg eg) (n5 : b5 ≠ b ∧ b5 ≠ g ∧ b5 ≠ r ∧ b5 ≠ sg ∧ b5 ≠ eg) (hc : c2 ≠ c1) (hl : c1 < l.size) (d3 : Dv W' b g D') (k3 : Kept [b, g] W W') : Jw w b g r sg eg D D' b5 x c1 c2 (l.setIfInBounds c1 true) W' := by
  have hn := ap.ne
  refine ⟨by rw [getD_own hl]; exact d3, by rw [getD_oth hc]; exact h.rv.kept k3 (by simp; omega) (by simp; omega) (by simp; omega), h.x5.kept k3 (by simp; omega), h.k.trans (k3.mono ?_)⟩
  intro k hk
  simp at hk ⊢
  omega
theorem Jw.rcall {Y : List Nat} (h : Jw w b g r sg eg D D' b5 x c1 c2 l W) (ap : Ap B b g r sg eg) (n5 : b5 ≠ b ∧ b5 ≠ g ∧ b5 ≠ r ∧ b5 ≠ sg ∧ b5 ≠ eg) (hc : c1 ≠ c2) (hl : c2 < l.size) (hY : ∀ k ∈ Y, k = r ∨ k = sg ∨ k = eg) (d3 : Rv W' r sg eg D') (k3 : Kept Y W W') : Jw w b g r sg eg D D' b5 x c1 c2 (l.setIfInBounds c2 true) W' := by
  have hn := ap.ne
  have y1 : b ∉ Y := fun hm => by have := hY _ hm; omega
  have y2 : g ∉ Y := fun hm => by have := hY _ hm; omega
  have y3 : b5 ∉ Y := fun hm => by have := hY _ hm; omega
  refine ⟨by rw [getD_oth hc]; exact h.dv.kept k3 y1 y2, by rw [getD_own hl]; exact d3, h.x5.kept k3 y3, h.k.trans (k3.mono ?_)⟩
  intro k hk
  have := hY _ hk
  simp
  omega
theorem Jw.dv1 (h : Jw w b g r sg eg D D' b5 x c1 c2 l W) (hf : l.getD c1 false = true) : Dv W b g D' := by
  have := h.dv
  rw [hf] at this
  exact this
theorem Jw.rv1 (h : Jw w b g r sg eg D D' b5 x c1 c2 l W) (hf : l.getD c2 false = true) : Rv W r sg eg D' := by
  have := h.rv
  rw [hf] at this
  exact this
end
set_option maxHeartbeats 2000000 in
set_option maxRecDepth 100000 in
theorem do_4 (B b g r sg eg : Nat) (D : Dev) (x : Sx) (w : World) (hD : Dv w b g D) (hR : Rv w r sg eg D) (ap : Ap B b g r sg eg) (hx : x.Ok w B) (hk : x.kd = 4) : Calls Try.prog 14 #[P0 b, P0 r, aggV x.C] w (DoR B b g r sg eg ((D.fence x.nn x.ee x.aa x.bb).2) w) := by
  obtain ⟨u1, D', hU⟩ : ∃ u1 D', D.fence x.nn x.ee x.aa x.bb = (u1, D') := ⟨_, _, rfl⟩
  have P24 := hide (fun W (h : Dv W b g D) => fence24 b g D x.nn x.ee x.aa x.bb W h)
  have P44 := hide (fun W (h : Rv W r sg eg D) => r_fence r sg eg D x.nn x.ee x.aa x.bb W h hx.bb)
  rw [hU] at P24 P44 ⊢
  clear hU
  have hlC := C_len hx
  have HX := hide hx
  have HD := hide hD
  have HR := hide hR
  have HA := hide ap
  have HK := hide hk
  clear hk
  clear hD hR ap hx
  go_enter Try.func14, Try.ntmps14
  go_wp2_with (
    first
    | (refine wpBoxV (by rfl) (.tmp 2) (by rfl) x.C (by rfl) ?_
       intro W1 b5 e1 B1 K1
       have G : Hid (Dg w W1 b g r sg eg D D b5 x) := ⟨(unhide HD).kept K1 (by simp) (by simp), (unhide HR).kept K1 (by simp) (by simp) (by simp), B1, K1.mono (by simp), by omega⟩
       have N5 := hide ((unhide G).apart (unhide HD) (unhide HR))
       obtain ⟨q0, q1, q2, q3, q4, q5⟩ := x_cells (unhide G).x5
       rw [unhide HK] at q0
       clear e1 B1 K1))
  refine wp_region_any mixed (wpAny_tw (by kernel_rfl) [some (P0 b), some (P0 r), some (P0 b), some (.pointer (some ⟨b5, 1, none⟩)), some (.int .i64 x.nn), some (.pointer (some ⟨b5, 3, none⟩)), some (.int .i64 x.ee), some (.pointer (some ⟨b5, 2, none⟩)), some (.int .i64 x.aa), some (.pointer (some ⟨b5, 4, none⟩)), some (.int .i64 x.bb), some (.int .i64 u1), some (.int .i64 u1), some (P0 r), some (.pointer (some ⟨b5, 1, none⟩)), some (.int .i64 x.nn), some (.pointer (some ⟨b5, 3, none⟩)), some (.int .i64 x.ee), some (.pointer (some ⟨b5, 2, none⟩)), some (.int .i64 x.aa), some (.pointer (some ⟨b5, 4, none⟩)), some (.int .i64 x.bb), some (.int .i64 u1), some (.bool true), some (P0 b), some (P0 r), some (.bool true)] rfl (by kernel_rfl) (by kernel_rfl) (Jw w b g r sg eg D D' b5 x 11 22) ?_ ?_ ?_ ?_)
  · have kk : Kept [] W1 (W1.drew) := ⟨rfl, rfl, rfl, Nat.le_refl _, fun _ _ _ => rfl⟩
    have G1 := (unhide G).step kk
    exact Jw.init _ G1.dv G1.rv G1.x5 G1.k
  · exact fun j l w h _ hJ => hJ.same j (by rintro rfl; cases h) (by rintro rfl; cases h)
  · intro i o' hi hsk ho a' w2 ls hls hlf hJ hout hin hdep
    replace hls : ls.size = 27 := hls
    match i, ho, hsk with
    | 0, ho, hsk =>
      obtain rfl := Option.some.inj ho
      exact wp_move (.tmp 0) rfl _ ((hout 0 (by kernel_rfl)).trans rfl) ⟨_, rfl, tq_is _ _ _ _ rfl, hJ.same 0 (by decide) (by decide)⟩
    | 1, ho, hsk =>
      obtain rfl := Option.some.inj ho
      exact wp_move (.tmp 1) rfl _ ((hout 1 (by kernel_rfl)).trans rfl) ⟨_, rfl, tq_is _ _ _ _ rfl, hJ.same 1 (by decide) (by decide)⟩
    | 2, ho, hsk =>
      obtain rfl := Option.some.inj ho
      exact wp_move (.tmp 0) rfl _ ((hout 0 (by kernel_rfl)).trans rfl) ⟨_, rfl, tq_is _ _ _ _ rfl, hJ.same 2 (by decide) (by decide)⟩
    | 3, ho, hsk =>
      obtain rfl := Option.some.inj ho
      exact o_fld40_1 (.tmp 5) rfl b5 ((hout 5 (by kernel_rfl)).trans rfl) ⟨_, rfl, tq_is _ _ _ _ rfl, hJ.same 3 (by decide) (by decide)⟩
    | 4, ho, hsk =>
      obtain rfl := Option.some.inj ho
      have e0 : a'.eval (.tmp 173) = .pointer (some ⟨b5, 1, none⟩) := is_tq (w := w2) (hin 3 173 (by kernel_rfl) (by kernel_rfl)) rfl
      exact o_load3 (.tmp 173) rfl ⟨b5, 1, none⟩ _ e0 (x_cells hJ.x5).2.1 ⟨_, rfl, tq_is _ _ _ _ rfl, hJ.same 4 (by decide) (by decide)⟩
    | 5, ho, hsk =>
      obtain rfl := Option.some.inj ho
      exact o_fld40_3 (.tmp 5) rfl b5 ((hout 5 (by kernel_rfl)).trans rfl) ⟨_, rfl, tq_is _ _ _ _ rfl, hJ.same 5 (by decide) (by decide)⟩
    | 6, ho, hsk =>
      obtain rfl := Option.some.inj ho
      have e0 : a'.eval (.tmp 175) = .pointer (some ⟨b5, 3, none⟩) := is_tq (w := w2) (hin 5 175 (by kernel_rfl) (by kernel_rfl)) rfl
      exact o_load2 (.tmp 175) rfl ⟨b5, 3, none⟩ _ e0 (x_cells hJ.x5).2.2.2.1 ⟨_, rfl, tq_is _ _ _ _ rfl, hJ.same 6 (by decide) (by decide)⟩
    | 7, ho, hsk =>
      obtain rfl := Option.some.inj ho
      exact o_fld40_2 (.tmp 5) rfl b5 ((hout 5 (by kernel_rfl)).trans rfl) ⟨_, rfl, tq_is _ _ _ _ rfl, hJ.same 7 (by decide) (by decide)⟩
    | 8, ho, hsk =>
      obtain rfl := Option.some.inj ho
      have e0 : a'.eval (.tmp 177) = .pointer (some ⟨b5, 2, none⟩) := is_tq (w := w2) (hin 7 177 (by kernel_rfl) (by kernel_rfl)) rfl
      exact o_load3 (.tmp 177) rfl ⟨b5, 2, none⟩ _ e0 (x_cells hJ.x5).2.2.1 ⟨_, rfl, tq_is _ _ _ _ rfl, hJ.same 8 (by decide) (by decide)⟩
    | 9, ho, hsk =>
      obtain rfl := Option.some.inj ho
      exact o_fld40_4 (.tmp 5) rfl b5 ((hout 5 (by kernel_rfl)).trans rfl) ⟨_, rfl, tq_is _ _ _ _ rfl, hJ.same 9 (by decide) (by decide)⟩
    | 10, ho, hsk =>
      obtain rfl := Option.some.inj ho
      have e0 : a'.eval (.tmp 179) = .pointer (some ⟨b5, 4, none⟩) := is_tq (w := w2) (hin 9 179 (by kernel_rfl) (by kernel_rfl)) rfl
      exact o_load2 (.tmp 179) rfl ⟨b5, 4, none⟩ _ e0 (x_cells hJ.x5).2.2.2.2.1 ⟨_, rfl, tq_is _ _ _ _ rfl, hJ.same 10 (by decide) (by decide)⟩
    | 11, ho, hsk =>
      obtain rfl := Option.some.inj ho
      have e0 : a'.eval (.tmp 172) = P0 b := is_tq (w := w2) (hin 2 172 (by kernel_rfl) (by kernel_rfl)) rfl
      have e1 : a'.eval (.tmp 174) = .int .i64 x.nn := is_tq (w := w2) (hin 4 174 (by kernel_rfl) (by kernel_rfl)) rfl
      have e2 : a'.eval (.tmp 176) = .int .i64 x.ee := is_tq (w := w2) (hin 6 176 (by kernel_rfl) (by kernel_rfl)) rfl
      have e3 : a'.eval (.tmp 178) = .int .i64 x.aa := is_tq (w := w2) (hin 8 178 (by kernel_rfl) (by kernel_rfl)) rfl
      have e4 : a'.eval (.tmp 180) = .int .i64 x.bb := is_tq (w := w2) (hin 10 180 (by kernel_rfl) (by kernel_rfl)) rfl
      refine wp_callF 24 _ _ rfl #[P0 b, .int .i64 x.nn, .int .i64 x.ee, .int .i64 x.aa, .int .i64 x.bb] (by simp [e0, e1, e2, e3, e4]) (ch24 _ _) ((unhide P24 _ (hJ.dv0 hlf)).mono ?_)
      rintro e w3 ⟨rfl, d3, k3⟩
      exact ⟨_, rfl, _, rfl, tq_is _ _ _ _ rfl, hJ.dcall (unhide HA) (unhide N5) (by decide) (by omega) d3 k3⟩
    | 12, ho, hsk =>
      obtain rfl := Option.some.inj ho
      have e0 : a'.eval (.tmp 181) = .int .i64 u1 := is_tq (w := w2) (hin 11 181 (by kernel_rfl) (by kernel_rfl)) rfl
      refine wp_callF 10 _ _ rfl #[.int .i64 u1] (by simp [e0]) (cg10 _ _) ((num10 _ _).mono ?_)
      rintro e w3 ⟨rfl, rfl⟩
      exact ⟨_, rfl, _, rfl, tq_is _ _ _ _ rfl, hJ.same 12 (by decide) (by decide)⟩
    | 13, ho, hsk =>
      obtain rfl := Option.some.inj ho
      exact wp_move (.tmp 1) rfl _ ((hout 1 (by kernel_rfl)).trans rfl) ⟨_, rfl, tq_is _ _ _ _ rfl, hJ.same 13 (by decide) (by decide)⟩
    | 14, ho, hsk =>
      obtain rfl := Option.some.inj ho
      exact o_fld40_1 (.tmp 5) rfl b5 ((hout 5 (by kernel_rfl)).trans rfl) ⟨_, rfl, tq_is _ _ _ _ rfl, hJ.same 14 (by decide) (by decide)⟩
    | 15, ho, hsk =>
      obtain rfl := Option.some.inj ho
      have e0 : a'.eval (.tmp 184) = .pointer (some ⟨b5, 1, none⟩) := is_tq (w := w2) (hin 14 184 (by kernel_rfl) (by kernel_rfl)) rfl
      exact o_load3 (.tmp 184) rfl ⟨b5, 1, none⟩ _ e0 (x_cells hJ.x5).2.1 ⟨_, rfl, tq_is _ _ _ _ rfl, hJ.same 15 (by decide) (by decide)⟩
    | 16, ho, hsk =>
      obtain rfl := Option.some.inj ho
      exact o_fld40_3 (.tmp 5) rfl b5 ((hout 5 (by kernel_rfl)).trans rfl) ⟨_, rfl, tq_is _ _ _ _ rfl, hJ.same 16 (by decide) (by decide)⟩
    | 17, ho, hsk =>
      obtain rfl := Option.some.inj ho
      have e0 : a'.eval (.tmp 186) = .pointer (some ⟨b5, 3, none⟩) := is_tq (w := w2) (hin 16 186 (by kernel_rfl) (by kernel_rfl)) rfl
      exact o_load2 (.tmp 186) rfl ⟨b5, 3, none⟩ _ e0 (x_cells hJ.x5).2.2.2.1 ⟨_, rfl, tq_is _ _ _ _ rfl, hJ.same 17 (by decide) (by decide)⟩
    | 18, ho, hsk =>
      obtain rfl := Option.some.inj ho
      exact o_fld40_2 (.tmp 5) rfl b5 ((hout 5 (by kernel_rfl)).trans rfl) ⟨_, rfl, tq_is _ _ _ _ rfl, hJ.same 18 (by decide) (by decide)⟩
    | 19, ho, hsk =>
      obtain rfl := Option.some.inj ho
      have e0 : a'.eval (.tmp 188) = .pointer (some ⟨b5, 2, none⟩) := is_tq (w := w2) (hin 18 188 (by kernel_rfl) (by kernel_rfl)) rfl
      exact o_load3 (.tmp 188) rfl ⟨b5, 2, none⟩ _ e0 (x_cells hJ.x5).2.2.1 ⟨_, rfl, tq_is _ _ _ _ rfl, hJ.same 19 (by decide) (by decide)⟩
    | 20, ho, hsk =>
      obtain rfl := Option.some.inj ho
      exact o_fld40_4 (.tmp 5) rfl b5 ((hout 5 (by kernel_rfl)).trans rfl) ⟨_, rfl, tq_is _ _ _ _ rfl, hJ.same 20 (by decide) (by decide)⟩
    | 21, ho, hsk =>
      obtain rfl := Option.some.inj ho
      have e0 : a'.eval (.tmp 190) = .pointer (some ⟨b5, 4, none⟩) := is_tq (w := w2) (hin 20 190 (by kernel_rfl) (by kernel_rfl)) rfl
      exact o_load2 (.tmp 190) rfl ⟨b5, 4, none⟩ _ e0 (x_cells hJ.x5).2.2.2.2.1 ⟨_, rfl, tq_is _ _ _ _ rfl, hJ.same 21 (by decide) (by decide)⟩
    | 22, ho, hsk =>
      obtain rfl := Option.some.inj ho
      have e0 : a'.eval (.tmp 183) = P0 r := is_tq (w := w2) (hin 13 183 (by kernel_rfl) (by kernel_rfl)) rfl
      have e1 : a'.eval (.tmp 185) = .int .i64 x.nn := is_tq (w := w2) (hin 15 185 (by kernel_rfl) (by kernel_rfl)) rfl
      have e2 : a'.eval (.tmp 187) = .int .i64 x.ee := is_tq (w := w2) (hin 17 187 (by kernel_rfl) (by kernel_rfl)) rfl
      have e3 : a'.eval (.tmp 189) = .int .i64 x.aa := is_tq (w := w2) (hin 19 189 (by kernel_rfl) (by kernel_rfl)) rfl
      have e4 : a'.eval (.tmp 191) = .int .i64 x.bb := is_tq (w := w2) (hin 21 191 (by kernel_rfl) (by kernel_rfl)) rfl
      refine wp_callF 44 _ _ rfl #[P0 r, .int .i64 x.nn, .int .i64 x.ee, .int .i64 x.aa, .int .i64 x.bb] (by simp [e0, e1, e2, e3, e4]) (ch44 _ _) ((unhide P44 _ (hJ.rv0 hlf)).mono ?_)
      rintro e w3 ⟨rfl, d3, k3⟩
      exact ⟨_, rfl, _, rfl, tq_is _ _ _ _ rfl, hJ.rcall (unhide HA) (unhide N5) (by decide) (by omega) (by simp) d3 k3⟩
    | 23, ho, hsk =>
      obtain rfl := Option.some.inj ho
      have e0 : a'.eval (.tmp 182) = .int .i64 u1 := is_tq (w := w2) (hin 12 182 (by kernel_rfl) (by kernel_rfl)) rfl
      have e1 : a'.eval (.tmp 192) = .int .i64 u1 := is_tq (w := w2) (hin 22 192 (by kernel_rfl) (by kernel_rfl)) rfl
      exact o_eql3v (.tmp 182) (.tmp 192) rfl _ _ true (by simp) e0 e1 ⟨_, rfl, tq_is _ _ _ _ rfl, hJ.same 23 (by decide) (by decide)⟩
    | 24, ho, hsk =>
      obtain rfl := Option.some.inj ho
      have e0 : a'.eval (.tmp 170) = P0 b := is_tq (w := w2) (hin 0 170 (by kernel_rfl) (by kernel_rfl)) rfl
      exact wp_assignV (.tmp 170) rfl _ e0 ⟨_, rfl, tq_is _ _ _ _ rfl, hJ.same 24 (by decide) (by decide)⟩
    | 25, ho, hsk =>
      obtain rfl := Option.some.inj ho
      have e0 : a'.eval (.tmp 171) = P0 r := is_tq (w := w2) (hin 1 171 (by kernel_rfl) (by kernel_rfl)) rfl
      exact wp_assignV (.tmp 171) rfl _ e0 ⟨_, rfl, tq_is _ _ _ _ rfl, hJ.same 25 (by decide) (by decide)⟩
    | 26, ho, hsk =>
      obtain rfl := Option.some.inj ho
      have e0 : a'.eval (.tmp 193) = .bool true := is_tq (w := w2) (hin 23 193 (by kernel_rfl) (by kernel_rfl)) rfl
      exact wp_assignV (.tmp 193) rfl _ e0 ⟨_, rfl, tq_is _ _ _ _ rfl, hJ.same 26 (by decide) (by decide)⟩
  intro l w9 hl hJ
  simp only [valsQ, List.map_cons, List.map_nil, Option.getD_some, putAll, Act.put, List.setIfInBounds_toArray, List.set_cons_succ, List.set_cons_zero]
  have hd9 := hide (hJ.dv1 (hl 11 (by decide)))
  have hr9 := hide (hJ.rv1 (hl 22 (by decide)))
  have hk9 := hide hJ.k
  clear hJ hl q0 q1 q2 q3 q4 q5
  go_wp2_with fail
  exact bodyPost_ret (res14 _ _ _ _ _ rfl rfl rfl) rfl ⟨b, g, r, sg, eg, rfl, unhide hd9, unhide hr9, unhide HA, unhide hk9, Frs.same _ _ _ _ _ _⟩
set_option maxHeartbeats 2000000 in
set_option maxRecDepth 100000 in
theorem do_5 (B b g r sg eg : Nat) (D : Dev) (x : Sx) (w : World) (hD : Dv w b g D) (hR : Rv w r sg eg D) (ap : Ap B b g r sg eg) (hx : x.Ok w B) (hk : x.kd = 5) : Calls Try.prog 14 #[P0 b, P0 r, aggV x.C] w (DoR B b g r sg eg ((D.cut x.aa).2) w) := by
  obtain ⟨u1, D', hU⟩ : ∃ u1 D', D.cut x.aa = (u1, D') := ⟨_, _, rfl⟩
  have P25 := hide (fun W (h : Dv W b g D) => cut25 b g D x.aa W h hx.aa.2)
  have P45 := hide (fun W (h : Rv W r sg eg D) => r_cut r sg eg D x.aa W h hx.aa.2)
  rw [hU] at P25 P45 ⊢
  clear hU
  have hlC := C_len hx
  have HX := hide hx
  have HD := hide hD
  have HR := hide hR
  have HA := hide ap
  have HK := hide hk
  clear hk
  clear hD hR ap hx
  go_enter Try.func14, Try.ntmps14
  go_wp2_with (
    first
    | (refine wpBoxV (by rfl) (.tmp 2) (by rfl) x.C (by rfl) ?_
       intro W1 b5 e1 B1 K1
       have G : Hid (Dg w W1 b g r sg eg D D b5 x) := ⟨(unhide HD).kept K1 (by simp) (by simp), (unhide HR).kept K1 (by simp) (by simp) (by simp), B1, K1.mono (by simp), by omega⟩
       have N5 := hide ((unhide G).apart (unhide HD) (unhide HR))
       obtain ⟨q0, q1, q2, q3, q4, q5⟩ := x_cells (unhide G).x5
       rw [unhide HK] at q0
       clear e1 B1 K1))
  refine wp_region_any mixed (wpAny_tw (by kernel_rfl) [some (P0 b), some (P0 r), some (P0 b), some (.pointer (some ⟨b5, 2, none⟩)), some (.int .i64 x.aa), some (.int .i64 u1), some (.int .i64 u1), some (P0 r), some (.pointer (some ⟨b5, 2, none⟩)), some (.int .i64 x.aa), some (.int .i64 u1), some (.bool true), some (P0 b), some (P0 r), some (.bool true)] rfl (by kernel_rfl) (by kernel_rfl) (Jw w b g r sg eg D D' b5 x 5 10) ?_ ?_ ?_ ?_)
  · have kk : Kept [] W1 (W1.drew) := ⟨rfl, rfl, rfl, Nat.le_refl _, fun _ _ _ => rfl⟩
    have G1 := (unhide G).step kk
    exact Jw.init _ G1.dv G1.rv G1.x5 G1.k
  · exact fun j l w h _ hJ => hJ.same j (by rintro rfl; cases h) (by rintro rfl; cases h)
  · intro i o' hi hsk ho a' w2 ls hls hlf hJ hout hin hdep
    replace hls : ls.size = 15 := hls
    match i, ho, hsk with
    | 0, ho, hsk =>
      obtain rfl := Option.some.inj ho
      exact wp_move (.tmp 0) rfl _ ((hout 0 (by kernel_rfl)).trans rfl) ⟨_, rfl, tq_is _ _ _ _ rfl, hJ.same 0 (by decide) (by decide)⟩
    | 1, ho, hsk =>
      obtain rfl := Option.some.inj ho
      exact wp_move (.tmp 1) rfl _ ((hout 1 (by kernel_rfl)).trans rfl) ⟨_, rfl, tq_is _ _ _ _ rfl, hJ.same 1 (by decide) (by decide)⟩
    | 2, ho, hsk =>
      obtain rfl := Option.some.inj ho
      exact wp_move (.tmp 0) rfl _ ((hout 0 (by kernel_rfl)).trans rfl) ⟨_, rfl, tq_is _ _ _ _ rfl, hJ.same 2 (by decide) (by decide)⟩
    | 3, ho, hsk =>
      obtain rfl := Option.some.inj ho
      exact o_fld40_2 (.tmp 5) rfl b5 ((hout 5 (by kernel_rfl)).trans rfl) ⟨_, rfl, tq_is _ _ _ _ rfl, hJ.same 3 (by decide) (by decide)⟩
    | 4, ho, hsk =>
      obtain rfl := Option.some.inj ho
      have e0 : a'.eval (.tmp 199) = .pointer (some ⟨b5, 2, none⟩) := is_tq (w := w2) (hin 3 199 (by kernel_rfl) (by kernel_rfl)) rfl
      exact o_load3 (.tmp 199) rfl ⟨b5, 2, none⟩ _ e0 (x_cells hJ.x5).2.2.1 ⟨_, rfl, tq_is _ _ _ _ rfl, hJ.same 4 (by decide) (by decide)⟩
    | 5, ho, hsk =>
      obtain rfl := Option.some.inj ho
      have e0 : a'.eval (.tmp 198) = P0 b := is_tq (w := w2) (hin 2 198 (by kernel_rfl) (by kernel_rfl)) rfl
      have e1 : a'.eval (.tmp 200) = .int .i64 x.aa := is_tq (w := w2) (hin 4 200 (by kernel_rfl) (by kernel_rfl)) rfl
      refine wp_callF 25 _ _ rfl #[P0 b, .int .i64 x.aa] (by simp [e0, e1]) (ch25 _ _) ((unhide P25 _ (hJ.dv0 hlf)).mono ?_)
      rintro e w3 ⟨rfl, d3, k3⟩
      exact ⟨_, rfl, _, rfl, tq_is _ _ _ _ rfl, hJ.dcall (unhide HA) (unhide N5) (by decide) (by omega) d3 k3⟩
    | 6, ho, hsk =>
      obtain rfl := Option.some.inj ho
      have e0 : a'.eval (.tmp 201) = .int .i64 u1 := is_tq (w := w2) (hin 5 201 (by kernel_rfl) (by kernel_rfl)) rfl
      refine wp_callF 10 _ _ rfl #[.int .i64 u1] (by simp [e0]) (cg10 _ _) ((num10 _ _).mono ?_)
      rintro e w3 ⟨rfl, rfl⟩
      exact ⟨_, rfl, _, rfl, tq_is _ _ _ _ rfl, hJ.same 6 (by decide) (by decide)⟩
    | 7, ho, hsk =>
      obtain rfl := Option.some.inj ho
      exact wp_move (.tmp 1) rfl _ ((hout 1 (by kernel_rfl)).trans rfl) ⟨_, rfl, tq_is _ _ _ _ rfl, hJ.same 7 (by decide) (by decide)⟩
    | 8, ho, hsk =>
      obtain rfl := Option.some.inj ho
      exact o_fld40_2 (.tmp 5) rfl b5 ((hout 5 (by kernel_rfl)).trans rfl) ⟨_, rfl, tq_is _ _ _ _ rfl, hJ.same 8 (by decide) (by decide)⟩
    | 9, ho, hsk =>
      obtain rfl := Option.some.inj ho
      have e0 : a'.eval (.tmp 204) = .pointer (some ⟨b5, 2, none⟩) := is_tq (w := w2) (hin 8 204 (by kernel_rfl) (by kernel_rfl)) rfl
      exact o_load3 (.tmp 204) rfl ⟨b5, 2, none⟩ _ e0 (x_cells hJ.x5).2.2.1 ⟨_, rfl, tq_is _ _ _ _ rfl, hJ.same 9 (by decide) (by decide)⟩
    | 10, ho, hsk =>
      obtain rfl := Option.some.inj ho
      have e0 : a'.eval (.tmp 203) = P0 r := is_tq (w := w2) (hin 7 203 (by kernel_rfl) (by kernel_rfl)) rfl
      have e1 : a'.eval (.tmp 205) = .int .i64 x.aa := is_tq (w := w2) (hin 9 205 (by kernel_rfl) (by kernel_rfl)) rfl
      refine wp_callF 45 _ _ rfl #[P0 r, .int .i64 x.aa] (by simp [e0, e1]) (ch45 _ _) ((unhide P45 _ (hJ.rv0 hlf)).mono ?_)
      rintro e w3 ⟨rfl, d3, k3⟩
      exact ⟨_, rfl, _, rfl, tq_is _ _ _ _ rfl, hJ.rcall (unhide HA) (unhide N5) (by decide) (by omega) (by simp) d3 k3⟩
    | 11, ho, hsk =>
      obtain rfl := Option.some.inj ho
      have e0 : a'.eval (.tmp 202) = .int .i64 u1 := is_tq (w := w2) (hin 6 202 (by kernel_rfl) (by kernel_rfl)) rfl
      have e1 : a'.eval (.tmp 206) = .int .i64 u1 := is_tq (w := w2) (hin 10 206 (by kernel_rfl) (by kernel_rfl)) rfl
      exact o_eql3v (.tmp 202) (.tmp 206) rfl _ _ true (by simp) e0 e1 ⟨_, rfl, tq_is _ _ _ _ rfl, hJ.same 11 (by decide) (by decide)⟩
    | 12, ho, hsk =>
      obtain rfl := Option.some.inj ho
      have e0 : a'.eval (.tmp 196) = P0 b := is_tq (w := w2) (hin 0 196 (by kernel_rfl) (by kernel_rfl)) rfl
      exact wp_assignV (.tmp 196) rfl _ e0 ⟨_, rfl, tq_is _ _ _ _ rfl, hJ.same 12 (by decide) (by decide)⟩
    | 13, ho, hsk =>
      obtain rfl := Option.some.inj ho
      have e0 : a'.eval (.tmp 197) = P0 r := is_tq (w := w2) (hin 1 197 (by kernel_rfl) (by kernel_rfl)) rfl
      exact wp_assignV (.tmp 197) rfl _ e0 ⟨_, rfl, tq_is _ _ _ _ rfl, hJ.same 13 (by decide) (by decide)⟩
    | 14, ho, hsk =>
      obtain rfl := Option.some.inj ho
      have e0 : a'.eval (.tmp 207) = .bool true := is_tq (w := w2) (hin 11 207 (by kernel_rfl) (by kernel_rfl)) rfl
      exact wp_assignV (.tmp 207) rfl _ e0 ⟨_, rfl, tq_is _ _ _ _ rfl, hJ.same 14 (by decide) (by decide)⟩
  intro l w9 hl hJ
  simp only [valsQ, List.map_cons, List.map_nil, Option.getD_some, putAll, Act.put, List.setIfInBounds_toArray, List.set_cons_succ, List.set_cons_zero]
  have hd9 := hide (hJ.dv1 (hl 5 (by decide)))
  have hr9 := hide (hJ.rv1 (hl 10 (by decide)))
  have hk9 := hide hJ.k
  clear hJ hl q0 q1 q2 q3 q4 q5
  go_wp2_with fail
  exact bodyPost_ret (res14 _ _ _ _ _ rfl rfl rfl) rfl ⟨b, g, r, sg, eg, rfl, unhide hd9, unhide hr9, unhide HA, unhide hk9, Frs.same _ _ _ _ _ _⟩

end Go.Proofs.Ytffflafalffifaa.K
