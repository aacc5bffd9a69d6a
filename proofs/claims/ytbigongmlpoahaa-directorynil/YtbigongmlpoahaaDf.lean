/-
  ask: the walk.
-/
import Derived.Test.YtbigongmlpoahaaDe
import Derived.Test.YtbigongmlpoahaaFr
namespace Go.Proofs.Ytbigongmlpoahaa.D
set_option maxRecDepth 100000
set_option linter.unusedSimpArgs false
open Go.RowKit


/-- What ask tells, and leaves. -/
def AskR (A : Nat) (w : World) (b mb : Nat) (L : List Lk) (n : Int) (r : Lo → List Wi → Lo × List Wi × List Od) (e : Ending) (W : World) : Prop :=
  (isP n = false ∧ e = .returned (.tuple #[.slice none 0 0, .int .i64 2]) ∧ Kept [] w W)
  ∨ (isP n = true ∧ lkOf n L = none ∧ e = .returned (.tuple #[.slice none 0 0, .int .i64 6]) ∧ Kept [] w W)
  ∨ (∃ x ln v, lkOf n L = some x ∧ e = .returned (.tuple #[v, .int .i64 0]) ∧ New w W 76 7 v (r x.s x.q).2.2.length (poC n (r x.s x.q).2.2) ∧ Dg (A + 1) W b mb (setLk n ln (r x.s x.q) L) ∧ Kept (x.p :: spare x.ln) w W ∧ Grw w x.ln ln)
variable {A F : Nat} {w : World} {b mb : Nat} {L : List Lk} {v : Value} {n : Int} {cs : Array Value} {r : Lo → List Wi → Lo × List Wi × List Od}
theorem Dg.step0N (h : Dg A w b mb L) {W : World} (hk : Kept [] w W) : Dg A W b mb L := h.step0 hk
set_option maxHeartbeats 8000000 in
theorem ask41 (h : Dg A w b mb L) (hent : Ent F) (hc : ∀ x ∈ L, Calls Try.prog F (#[P0 x.p] ++ cs) w (LC x.p x.ln w (r x.s x.q))) (hgd : ∀ x ∈ L, Gd (A + 1) (r x.s x.q).1 (r x.s x.q).2.1) (hlen : ∀ x ∈ L, (r x.s x.q).2.2.length ≤ 10000) : Calls Try.prog 41 #[P0 b, .int .i64 n, fnV F cs] w (AskR A w b mb L n r) := by
  have H := hide h
  have c0 := h.cw
  have hk1 := look_lk n L
  cases hp : isP n with
  | false =>
    have HP := hide hp
    clear h hp hc hgd hlen hk1
    go_enter Try.func41, Try.ntmps41
    go_wp2_with (
      first
      | (go_at_call 35
         refine (none35 (unhide H)).mono ?_
         rintro e W9 ⟨rfl, q9⟩
         replace q9 := q9.symm
         subst q9
         refine Stp.go ?_))
    constructor
    go_wp2_with (
      first
      | (go_at_call 60
         refine (isPage60 _ _).mono ?_
         rw [unhide HP]
         rintro e W9 ⟨rfl, q9⟩
         replace q9 := q9.symm
         subst q9
         refine Stp.go ?_))
    constructor
    go_wp2_with fail
    go_ret2
    exact .inl ⟨unhide HP, rfl, Kept.refl _ _⟩
  | true =>
    have HP := hide hp
    cases hq : lkOf n L with
    | none =>
      rw [hq] at hk1
      have HL : Hid (lookV n (L.map Lk.e) = .pointer none) := hk1.1
      have HF : Hid ((placeOf n (L.map Lk.e) 0).isSome = false) := hk1.2
      have HQ := hide hq
      clear h hp hq hc hgd hlen hk1
      go_enter Try.func41, Try.ntmps41
      go_wp2_with (
        first
        | (go_at_call 35
           refine (none35 (unhide H)).mono ?_
           rintro e W9 ⟨rfl, q9⟩
           replace q9 := q9.symm
           subst q9
           refine Stp.go ?_))
      constructor
      go_wp2_with (
        first
        | (go_at_call 60
           refine (isPage60 _ _).mono ?_
           rw [unhide HP]
           rintro e W9 ⟨rfl, q9⟩
           replace q9 := q9.symm
           subst q9
           refine Stp.go ?_))
      constructor
      go_wp2_with (
        first
        | (refine wpLook2 rfl (.tmp 22) (.tmp 23) rfl mb (L.map Lk.e) _ _ false rfl rfl (unhide HL) (unhide HF) (unhide H).map ?_
           refine Stp.go ?_))
      constructor
      go_wp2_with fail
      go_ret2
      exact .inr (.inl ⟨unhide HP, unhide HQ, rfl, Kept.refl _ _⟩)
    | some x =>
      rw [hq] at hk1
      obtain ⟨hx, hxk⟩ := lkOf_some hq
      have HL : Hid (lookV n (L.map Lk.e) = P0 x.p) := hk1.1
      have HF : Hid ((placeOf n (L.map Lk.e) 0).isSome = true) := hk1.2
      have HQ := hide hq
      have HX := hide hx
      obtain ⟨R, hR⟩ : ∃ y, r x.s x.q = y := ⟨_, rfl⟩
      obtain ⟨O, hO⟩ : ∃ y, R.2.2 = y := ⟨_, rfl⟩
      have HRO := hide hO
      have HC : Hid (Calls Try.prog F (#[P0 x.p] ++ cs) w (LC x.p x.ln w R)) := by rw [← hR]; exact hc x hx
      have HG : Hid (Gd (A + 1) R.1 R.2.1) := by rw [← hR]; exact hgd x hx
      have hol : O.length ≤ 10000 := by rw [← hO, ← hR]; exact hlen x hx
      have HRR := hide hR
      have holI : (O.length : Int) ≤ 10000 := by omega
      subst hxk
      clear h hp hq hc hgd hlen hk1 hx hR hO
      go_enter Try.func41, Try.ntmps41
      go_wp2_with (
        first
        | (go_at_call 35
           refine (none35 (unhide H)).mono ?_
           rintro e W9 ⟨rfl, q9⟩
           replace q9 := q9.symm
           subst q9
           refine Stp.go ?_))
      constructor
      go_wp2_with (
        first
        | (go_at_call 60
           refine (isPage60 _ _).mono ?_
           rw [unhide HP]
           rintro e W9 ⟨rfl, q9⟩
           replace q9 := q9.symm
           subst q9
           refine Stp.go ?_))
      constructor
      go_wp2_with (
        first
        | (refine wpLook2 rfl (.tmp 22) (.tmp 23) rfl mb (L.map Lk.e) _ _ true rfl rfl (unhide HL) (unhide HF) (unhide H).map ?_
           refine Stp.go ?_))
      constructor
      go_wp2_with (
        first
        | (refine Calls.mono (unhide HC) ?_
           rintro e W1 ⟨ov, ln, rfl, h1, h2, h3, h4, h5⟩
           have HD : Hid (Dg (A + 1) W1 b mb (setLk x.k ln R L)) := (unhide H).call (unhide HX) h2 h3 h4 h5 (unhide HG)
           have HO : Hid (New w W1 74 6 ov O.length (odC O)) := by have h9 := h1; rw [show R.2.2 = O from unhide HRO] at h9; exact h9
           have HK1 := hide h4
           have HGW := hide h5
           clear h1 h2 h3 h4 h5
           refine Stp.go ?_))
      constructor
      go_wp2_with (
        first
        | (refine wpLen28 rfl (.tmp 31) rfl ov O.length (odC O) rfl (unhide HO).row ?_
           refine Stp.go ?_))
      constructor
      go_wp2_with fail
      go_loopw [10, 33] (fun x10 x33 wr => ∃ (k : Nat), k ≤ O.length ∧ x33 = .int .i64 k ∧ Hid (New W1 wr 76 7 x10 k (poC x.k (O.take k))) ∧ Hid (Kept [] W1 wr)) (fun _ x33 _ => O.length - (intOf x33).toNat)
      case atStart => exact ⟨0, by omega, rfl, hide (New.nil _ _ _ _), hide (Kept.refl _ _)⟩
      case round =>
        obtain ⟨k, hk, rfl, HT, HK⟩ := hrel
        by_cases hkl : k < O.length
        · have hd : decide ((k : Int) < (O.length : Int)) = true := by simp; omega
          obtain ⟨o, ho⟩ : ∃ o, O[k]? = some o := ⟨_, List.getElem?_eq_getElem hkl⟩
          have HOK := hide ho
          have HOC : Hid (∀ v ∈ o.C, v.oneCell' = true) := fun v hv => odC_one [o] v (by simpa [odC] using hv)
          have HTO : Hid (∀ i ∈ spare u10, W1.heap.size ≤ i) := (unhide HT).spare
          clear ho
          go_wp2_with (
            first
            | (refine wpIdxO rfl (.tmp 31) (.tmp 33) rfl ov O k o rfl rfl ((unhide HO).row.kept (unhide HK) (fun _ _ => by simp)) (unhide HOK) ?_
               intro g o' hr
               have HRG := hide hr
               clear hr
               refine Stp.go ?_))
          constructor
          go_wp2_with (
            first
            | (refine wpLoadA row65 rfl (.tmp 35) rfl g o' rfl o.C rfl (unhide HRG) ?_
               refine Stp.go ?_))
          constructor
          go_wp2_with (
            first
            | (refine wpNew row65 od0.C rfl zero65 12 rfl rfl rfl (.tmp 36) rfl rfl rfl o.C rfl (unhide HOC) rfl rfl ?_
               intro W2 y e2 B2 K2
               have HY := hide B2
               replace HK := hide ((unhide HK).trans K2)
               replace HT := hide ((unhide HT).kept K2 (fun _ _ => by simp))
               clear e2 B2 K2 HRG
               refine Stp.go ?_))
          constructor
          go_wp2_with (
            first
            | (refine wpLoadA row65 rfl (.tmp 12) rfl y 0 rfl o.C rfl (unhide HY).range ?_
               refine Stp.go ?_))
          constructor
          go_wp2_with (
            first
            | (refine wpBuildP (by rfl) #[(0, .tmp 38), (1, .tmp 39)] (by rfl) #[(0, .int .i64 x.k), (1, aggV o.C)] (by kernel_rfl) (poC1 x.k o) (build76 x.k o _) ?_
               refine Stp.go ?_))
          constructor
          go_wp2_with (
            first
            | (refine wpBs57 rfl (.tmp 40) rfl x.k o rfl ?_
               intro W3 g3 e3 B3 K3
               have HB3 : Hid (Rw W3 76 7 (.slice (some ⟨g3, 0, none⟩) 1 1) 1 (poC x.k [o])) := by show Rw _ _ _ _ _ _; rw [poC_sing]; exact Rw.made B3 rfl (max1000 (by omega))
               replace HK := hide ((unhide HK).trans K3)
               replace HT := hide ((unhide HT).kept K3 (fun _ _ => by simp))
               clear e3 B3 K3 HY
               refine Stp.go ?_))
          constructor
          go_wp2_with (
            first
            | (refine wpAppN el57 rfl (.tmp 37) (.tmp 41) rfl u10 k (poC x.k (O.take k)) rfl (unhide HT) _ 1 (poC x.k [o]) rfl (unhide HB3) (poC_one _ _) (by omega) (max1000 (by omega)) (unhide HK).size ?_
               intro v4 W4 h4 k4
               have HT4 : Hid (New W1 W4 76 7 v4 (k + 1) (poC x.k (O.take (k + 1)))) := by
                 have h9 := h4
                 rw [← poC_app] at h9
                 rw [List.take_add_one, unhide HOK]
                 exact h9
               have HK4 : Hid (Kept [] W1 W4) := (unhide HK).fresh k4 (fun i hi hl => by have h9 := (unhide HTO) i hi; omega)
               clear h4 k4 HB3
               refine Stp.go ?_))
          constructor
          go_wp2_with fail
          go_roundw
          case rel => exact ⟨k + 1, by omega, by go_num, HT4, HK4⟩
          case measure => simp [intOf]; omega
        · obtain rfl : k = O.length := by omega
          have hd : decide ((O.length : Int) < (O.length : Int)) = false := by simp
          rw [List.take_length] at HT
          have HE : Hid (New w wr 76 7 u10 R.2.2.length (poC x.k R.2.2)) := by show New _ _ _ _ _ _ _; rw [show R.2.2 = O from unhide HRO]; exact (unhide HT).elder (unhide HK1).size
          go_wp2_with fail
          go_ret2
          refine .inr (.inr ⟨x, ln, u10, unhide HQ, rfl, ?_, ?_, ?_, unhide HGW⟩)
          · rw [unhide HRR]; exact unhide HE
          · rw [unhide HRR]; exact (unhide HD).step0 (unhide HK)
          · exact ((unhide HK1).trans ((unhide HK).mono (by simp)))
theorem ask41_z (h : Nil w v) (n : Int) (F : Nat) (cs : Array Value) : Calls Try.prog 41 #[v, .int .i64 n, fnV F cs] w fun e W => e = .returned (.tuple #[.slice none 0 0, .int .i64 1]) ∧ Kept [] w W := by
  obtain ⟨p, rfl⟩ := h.ptr
  have H := hide h
  clear h
  go_enter Try.func41, Try.ntmps41
  go_wp2_with (
    first
    | (go_at_call 35
       refine (none35_z (unhide H)).mono ?_
       rintro e W9 ⟨rfl, q9⟩
       replace q9 := q9.symm
       subst q9
       refine Stp.go ?_))
  constructor
  go_wp2_with fail
  go_ret2
  exact ⟨rfl, Kept.refl _ _⟩

end Go.Proofs.Ytbigongmlpoahaa.D
