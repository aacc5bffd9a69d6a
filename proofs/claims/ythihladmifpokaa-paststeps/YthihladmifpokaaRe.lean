/-
  find, as the program calls it.
-/
import Derived.Test.YthihladmifpokaaRd
import Derived.WalkMore
namespace Go.Proofs.Ythihladmifpokaa
set_option maxRecDepth 100000
set_option linter.unusedSimpArgs false
open Go.RowKit Go.Shelf
attribute [local go_sem] Oper.semAt_some


variable {w W W' V : World} {B b mb c b3 b4 b5 : Nat} {M L : List Mk} {x : Mk} {bv : Bool} {f : Mk → Bool} {g : FuncId} {cs : Array Value}
theorem size72 : (Try.prog.info? 72).map (·.size) = some 1 := by kernel_rfl
/-- How find leaves: the mark is taken. -/
theorem find_leaves {W : World} {D B : Nat} {so : Value} {tmps : Array Value} (h4 : tmps[4]?.getD undef = P0 b4) (h5 : tmps[5]?.getD undef = P0 b5) (hS : Fv w W B b3 b4 b5 so x bv) (h1 : W.heap[D]? = some (.deferred (some []))) (g1 : w.heap.size ≤ D) :
    LeavesInM Fence.wide 3 Try.prog Try.f36 tmps (fun e w' => e = .returned (.tuple #[aggV x.C, .bool bv]) ∧ Kept [] w w') [{ target := .collected D, args := #[] }] .returning W := by
  have n1 : b4 ≠ D := by intro e; have := hS.h4; subst e; unfold Blk at this; rw [this] at h1; cases h1
  have n2 : b5 ≠ D := by intro e; have := hS.h5; subst e; unfold Blk at this; rw [this] at h1; cases h1
  have k1 : Kept [D] W (W.putObj D (.deferred none)) := Kept.put1
  refine ⟨by simp, .inl ⟨_, _, rfl, run_takeDeferred h1, ?_⟩⟩
  exact ⟨_, res36 _ _ _ _ _ _ h4 h5 (hS.h4.kept k1 (by simpa using n1)) (hS.h5.kept k1 (by simpa using n2)), rfl, hS.kp.fresh k1 (fun i hi hl => by simp at hi; omega)⟩
set_option maxHeartbeats 8000000 in
theorem find36 (h : Pg w b mb M) (hp : L.Perm M) (hs : Srt L) (hent : Ent g) (ht : Tells w g cs f) : Calls Try.prog 36 #[P0 b, fnV g cs] w fun e W => e = .returned (.tuple #[aggV (fndM f L).C, .bool (fndB f L)]) ∧ Kept [] w W := by
  have HP := hide h
  have HPM := hide hp
  have HSL := hide hs
  have HT := hide ht
  have hFw := wideF
  clear h hp hs ht
  refine (callsIn_wide (n := 3)).1 ?_
  refine callsIn_of_wp_marks Try.func36 rfl trivial ?_ rfl
  refine wpIn_wide.2 ?_
  simp only [Try.ntmps36, List.size_toArray, List.length_cons, List.length_nil, Nat.reduceAdd, Nat.reduceSub, Array.replicate_succ, Array.replicate_zero, List.push_toArray, List.append_toArray, List.nil_append, List.cons_append]
  go_wp2_with (
    first
    | (refine wpBoxN rfl (.tmp 1) rfl g cs rfl ?_
       intro W1 b3 e1 B1 K1
       have H3 := hide B1
       have HG3 : Hid (w.heap.size ≤ b3) := by show _ ≤ _; omega
       have HK := hide K1
       clear e1 B1 K1
       refine Stp.go ?_))
  constructor
  go_wp2_with (
    first
    | (refine wpAllocW mk0.C zero54 4 rfl rfl rfl ?_
       intro W2 b4 e2 B2 K2
       have H4 := hide B2
       have HG4 : Hid (b3 < b4 ∧ w.heap.size ≤ b4) := ⟨by have := (unhide H3).lt; omega, by have := (unhide HK).size; omega⟩
       replace H3 := hide ((unhide H3).kept K2 (by simp))
       replace HK := hide ((unhide HK).trans K2)
       clear e2 B2 K2
       refine Stp.go ?_))
  constructor
  go_wp2_with (
    first
    | (refine wpAllocW ([Value.bool false]) zero4 5 rfl rfl rfl ?_
       intro W3 b5 e2 B2 K2
       have HG5 : Hid (b4 < b5) := by have := (unhide H4).lt; show _ < _; omega
       have HS : Hid (Fv w W3 W3.heap.size b3 b4 b5 (fnV g cs) mk0 false) := by
         have h3 := (unhide H3).kept K2 (by simp)
         have h4 := (unhide H4).kept K2 (by simp)
         have h5 := unhide HG5
         have hg := unhide HG4
         have hg3 := unhide HG3
         have hk := (unhide HK).trans K2
         exact ⟨h3, h4, B2, hk, ⟨h3.lt, h4.lt, B2.lt⟩, ⟨hk.size, hg.2, by omega⟩, by omega⟩
       clear e2 B2 K2 H3 H4 HG3 HG4 HG5 HK
       refine Stp.go ?_))
  constructor
  go_wp2_with fail
  go_step3
  go_wp2_with fail
  go_step3
  go_wp2_with (
    first
    | (go_at_call 30
       refine (all30 (some ⟨b, 0, none⟩) _).mono ?_
       rintro e W4 ⟨c, rfl, hc, hg, K4⟩
       have HC := hide hc
       have HB : Hid (W3.heap.size ≤ W4.heap.size) := K4.size
       replace HS := hide ((unhide HS).step0 K4)
       clear hc hg K4
       refine Stp.go ?_))
  constructor
  go_wp2_with fail
  refine (wpIn_wide (n := 3)).1 ?_
  refine range_find (f := f) 0 rfl rfl (unhide HS) (unhide HB) (unhide HC) ((unhide HP).step (unhide HS).kp (by simp) (by simp)) (unhide HPM) (unhide HSL) ?assign ?body ?done ?exit
  case assign =>
    intro l x Wa K hK
    simp only [List.setIfInBounds_toArray, List.set_cons_succ, List.set_cons_zero]
    gi_wp2_with (
      first
      | (refine inNew row54 mk0.C rfl zero54 6 (by rfl) (fun _ => trivial) (by rfl) (by rfl) (by rfl) (.tmp 9) (by rfl) (by rfl) (fun _ => by rfl) (by rfl) x.C rfl x.one (by rfl) (by rfl) ?_
         intro W9 bx ex BX KX
         have HBX := hide BX
         have HKX := hide KX
         have HEX : Hid (Wa.heap.size ≤ bx) := by show _ ≤ _; omega
         clear ex BX KX)
      | fail)
    refine hK _ _ bx (unhide HKX) (unhide HBX) (unhide HEX) ?_
    simp only [ax, List.setIfInBounds_toArray, List.set_cons_succ, List.set_cons_zero]
  case exit =>
    intro a W h
    exact wpIn_exit h
  case body =>
    intro l k m bx W hm hS hbx hge
    have HS2 := hide hS
    have HBX := hide hbx
    have HGX := hide hge
    have c3 := fits_cell hS.h3 0 _ rfl
    simp only [ax, List.setIfInBounds_toArray, List.set_cons_succ, List.set_cons_zero]
    clear hm hS hbx hge
    cases hf : f m with
    | false =>
      have HF := hide hf
      clear hf
      gi_wp2_with (
        first
        | (refine inLoadA row54 wideF (by rfl) (.tmp 6) (by rfl) (by rfl) bx 0 (by rfl) m.C rfl (unhide HBX).range ?_)
        | (refine CallsIn.mono (CallsIn.inRound l (callsIn_wide.2 ((unhide HT) _ (unhide HS2).kp m))) ?_
           rintro e W5 ⟨rfl, K5⟩
           rw [show f m = false from unhide HF]
           have HK5 := hide K5
           replace HS2 := hide ((unhide HS2).step0 K5)
           clear K5))
      exact ⟨(unhide HK5).mono (by simp), unhide HS2⟩
    | true =>
      have HF := hide hf
      clear hf
      gi_wp2_with (
        first
        | (refine inLoadA row54 wideF (by rfl) (.tmp 6) (by rfl) (by rfl) bx 0 (by rfl) m.C rfl (unhide HBX).range ?_)
        | (refine CallsIn.mono (CallsIn.inRound l (callsIn_wide.2 ((unhide HT) _ (unhide HS2).kp m))) ?_
           rintro e W5 ⟨rfl, K5⟩
           rw [show f m = true from unhide HF]
           have HK5 := hide K5
           replace HS2 := hide ((unhide HS2).step0 K5)
           replace HBX := hide ((unhide HBX).kept K5 (by simp))
           clear K5)
        | (refine inStoreA row54 wideF (by rfl) (.tmp 4) (.tmp 13) (by rfl) (by rfl) (by rfl) b4 m.C mk0.C (by rfl) (by rfl) rfl rfl m.one (unhide HS2).h4 ?_
           intro W6 B6 K6
           have HB6 := hide B6
           have HK6 := hide K6
           have HB5 := hide ((unhide HS2).h5.kept K6 (by have := (unhide HS2).ne; simp; omega))
           clear B6 K6)
        | (refine inStore1 (.bool false) (.bool true) (st1 size4 ⟨rfl, rfl⟩) (fun _ => trivial) (by rfl) (.tmp 5) (.const (.bool true)) (by rfl) (by rfl) (by rfl) b5 (by rfl) (by rfl) (unhide HB5) ?_
           intro W7 B7 e7
           have HB7 := hide B7
           have HK7 : Hid (Kept [b5] W6 W7) := by rw [e7]; exact (Kept.refl _ _).setCell (p := ⟨b5, 0, none⟩) (by simp) _
           clear B7 e7))
      have hS := unhide HS2
      have hne := hS.ne
      have hge := hS.ge
      have k6 := unhide HK6
      have k7 := unhide HK7
      refine ⟨(((unhide HK5).mono (by simp)).trans (k6.mono (by simp))).trans (k7.mono (by simp)), ?_⟩
      exact ⟨(hS.h3.kept k6 (by simp; omega)).kept k7 (by simp; omega), (unhide HB6).kept k7 (by simp; omega), unhide HB7, (hS.kp.fresh k6 (by intro i hi hl; simp at hi; omega)).fresh k7 (by intro i hi hl; simp at hi; omega), hS.lt, hS.ge, hS.ne⟩
  case done =>
    intro Wd hS hD hsz
    have HSZ := hide hsz
    have HS2 := hide hS
    have HD := hide hD
    clear hS hD hsz HS
    go_wp2_with fail
    obtain ⟨x, hx⟩ : ∃ x, fndM f L = x := ⟨_, rfl⟩
    obtain ⟨bv, hv⟩ : ∃ x, fndB f L = x := ⟨_, rfl⟩
    have HX := hide hx
    have HV := hide hv
    rw [hx, hv] at HS2
    clear hx hv
    have hM0 : Mm [b4, b5] Wd Wd [(b4, 54, x.C), (b5, 4, [.bool bv])] := Mm.two (unhide HS2).h4 (unhide HS2).h5 (unhide HS2).ne.2.2
    refine wp_region_any mixed (wpAny_gx 4 rfl (by kernel_rfl) [some (aggV x.C), some (.bool bv), some undef, some undef] rfl (by kernel_rfl) (fun _ _ W => Mm [b4, b5] Wd W [(b4, 54, x.C), (b5, 4, [.bool bv])]) hM0.drew ?_ ?_)
    · intro ix o' hi ho a' w2 l vs hls hlf hJ hout hin hdep hnot
      match ix, ho with
      | 0, ho =>
        obtain rfl := Option.some.inj ho
        have e0 := hout 4 (by kernel_rfl)
        replace e0 : a'.eval (.tmp 4) = P0 b4 := e0.trans rfl
        exact wp_loadA row54 (.tmp 4) rfl b4 0 e0 x.C rfl (hJ.at 0 _ rfl).range ⟨_, rfl, told_of rfl, hJ⟩
      | 1, ho =>
        obtain rfl := Option.some.inj ho
        have e0 := hout 5 (by kernel_rfl)
        replace e0 : a'.eval (.tmp 5) = P0 b5 := e0.trans rfl
        exact o_load4 (.tmp 5) rfl _ _ e0 (fits_cell (hJ.at 1 _ rfl) 0 _ rfl) ⟨_, rfl, told_of rfl, hJ⟩
      | 2, ho =>
        obtain rfl := Option.some.inj ho
        have e0 := hout 4 (by kernel_rfl)
        replace e0 : a'.eval (.tmp 4) = P0 b4 := e0.trans rfl
        have e1 : a'.eval (.tmp 14) = aggV x.C := by have h9 := hin 0 14 (by kernel_rfl) (by kernel_rfl); exact h9.1.trans (told_is _ h9.2 rfl)
        exact o_stN row54 (.tmp 4) (.tmp 14) rfl rfl b4 0 0 x.C e0 e1 rfl x.one hJ rfl (by simp [Mk.len]) (fun W hB => hB.put rfl) (fun W hM => ⟨undef, rfl, told_of rfl, hM⟩)
      | 3, ho =>
        obtain rfl := Option.some.inj ho
        have e0 := hout 5 (by kernel_rfl)
        replace e0 : a'.eval (.tmp 5) = P0 b5 := e0.trans rfl
        have e1 : a'.eval (.tmp 15) = .bool bv := by have h9 := hin 1 15 (by kernel_rfl) (by kernel_rfl); exact h9.1.trans (told_is _ h9.2 rfl)
        exact o_st1 size4 (.tmp 5) (.tmp 15) rfl rfl b5 0 1 (.bool bv) ⟨rfl, rfl⟩ e0 e1 hJ rfl (by simp) rfl (fun W hM => ⟨undef, rfl, told_of rfl, hM⟩)
    intro l_ vs4 V4 hl hJ htold
    have t0 : vs4 0 = aggV x.C := told_is _ (htold 0 (by decide)) rfl
    have t1 : vs4 1 = .bool bv := told_is _ (htold 1 (by decide)) rfl
    rw [show (List.range 4).map vs4 = [vs4 0, vs4 1, vs4 2, vs4 3] from rfl]
    simp only [t0, t1, putAll, Act.put, List.setIfInBounds_toArray, List.set_cons_succ, List.set_cons_zero]
    clear t0 t1 htold
    have hS := unhide HS2
    have hD : V4.heap[W4.heap.size]? = some (Obj.deferred (some [])) := by
      refine hJ.kept.heap (unhide HD) ?_
      have h1 := hS.lt
      have h2 := unhide HB
      simp
      omega
    have hSV : Fv w V4 W3.heap.size b3 b4 b5 (fnV g cs) x bv := ⟨hS.h3.kept hJ.kept (by have := hS.ne; simp; omega), hJ.at 0 _ rfl, hJ.at 1 _ rfl, hS.kp.fresh hJ.kept (by intro i hi hl; have := hS.ge; simp at hi; omega), hS.lt, hS.ge, hS.ne⟩
    have HSV := hide hSV
    have HDV := hide hD
    have HGD : Hid (w.heap.size ≤ W4.heap.size) := Nat.le_trans hS.ge.1 (unhide HB)
    clear hJ hl hS hD hSV hM0 HS2 HD
    go_wp2_with fail
    rw [Exit.noGoto_ret]
    rw [← unhide HX, ← unhide HV] at HSV
    exact find_leaves rfl rfl (unhide HSV) (unhide HDV) (unhide HGD)

end Go.Proofs.Ythihladmifpokaa
