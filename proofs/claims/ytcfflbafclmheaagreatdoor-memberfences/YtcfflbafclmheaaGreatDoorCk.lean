/-
  Put, walked.
-/
import Derived.Test.YtcfflbafclmheaaGreatDoorCj

/-
  Put, walked.
-/
namespace Go.Proofs.YtcfflbafclmheaaGreatDoor.Vi
set_option maxRecDepth 100000
set_option maxRecDepth 100000
open Go.RowKit

theorem Mm.drew {w0 W : World} {bs : List (Nat × Nat × List Value)} (h : Mm w0 W bs) : Mm w0 W.drew bs := ⟨h.kept.drew, ⟨h.first.at0, h.first.lt⟩, h.first0, fun x hx => ⟨(h.blk x hx).1.drew, (h.blk x hx).2⟩, h.nd⟩
theorem Mm.sec {w0 W : World} {bs : List (Nat × Nat × List Value)} (h : Mm w0 W bs) {w1 : World} (i : Nat) {b : Nat} {us vs : List Value} (hi : bs[i]? = some (b, 59, us)) (hB : Blk w1 b 59 vs) (hK : Kept [b] W w1) : Mm w0 w1 (bs.set i (b, 59, vs)) := h.mut i hi hK hB
theorem secL_cut (o f A n : Int) (l : List (Bool × Int)) (j : Nat) (h : j < 8) : secL o f A n l (52 - 4 * j) = ([193, o, f, A] ++ be 8 n ++ epB l) ++ zs 4 ++ zs (48 - 4 * j) := by
  unfold secL
  rw [show zs (52 - 4 * j) = zs 4 ++ zs (48 - 4 * j) by simp only [zs, List.replicate_append_replicate]; congr 1; omega]
  simp
theorem secL_next (o f A n e : Int) (l : List (Bool × Int)) (m : Bool) (j : Nat) (h : j < 8) : [193, o, f, A] ++ be 8 n ++ epB l ++ be 4 e ++ zs (48 - 4 * j) = secL o f A n (l ++ [(m, e)]) (52 - 4 * (j + 1)) := by
  unfold secL
  rw [epB_app, show 52 - 4 * (j + 1) = 48 - 4 * j by omega]
  simp [epB]
set_option maxHeartbeats 16000000 in
theorem put_true (v : Vw) (w : World) (hF : First w) (hok : v.Ok) (hm : v.may = true) (hq : decide (v = fv) = false) (hop : v.op = true) : Calls Tryz.prog 148 #[aggV (vwC v)] w fun e w' => e = .returned (.tuple #[aggV (u8s (secL 1 (v.fd % 256) (bitF 0 v.ms : Nat) v.nu v.ms 20)), .int .i64 0]) ∧ Kept [] w w' := by
  have P12 : ∀ W, First W → Hid (Calls Tryz.prog 136 #[aggV (vwC v)] W fun e w' => e = .returned (.bool true) ∧ Kept [] W w') := fun W hW => hide (by have := may12 v W hW hok.len; rw [hm] at this; exact this)
  have HNU := hide hok.nu
  have HEP := hide hok.ep
  go_enter Tryz.func148, Tryz.ntmps148
  have M : Hid (Mm w w []) := hide (Mm.init hF)
  go_wp2_with (
    first
    | (refine wpBoxV rfl (.tmp 0) rfl (vwC v) rfl ?_
       intro W1 b1 e1 B1 K1
       replace M : Hid (Mm w W1 [(b1, 29, vwC v)]) := hide ((unhide M).new e1 B1 K1)
       clear e1 B1 K1
       refine Stp.go ?_))
  constructor
  go_wp2_with (
    first
    | (refine wpAllocW (u8s (zs 64)) zero28 2 rfl rfl rfl ?_
       intro W2 b2 e2 B2 K2
       replace M : Hid (Mm w W2 [(b1, 29, vwC v), (b2, 59, u8s (zs 64))]) := hide ((unhide M).new e2 B2 K2)
       clear e2 B2 K2
       refine Stp.go ?_))
  constructor
  go_wp2_with (
    first
    | (refine wpAllocW (u8s (zs 64)) zero28 4 rfl rfl rfl ?_
       intro W3 b3 e3 B3 K3
       replace M : Hid (Mm w W3 [(b1, 29, vwC v), (b2, 59, u8s (zs 64)), (b3, 59, u8s (zs 64))]) := hide ((unhide M).new e3 B3 K3)
       clear e3 B3 K3
       refine Stp.go ?_))
  constructor
  go_wp2_with (
    first
    | (refine wpLoadA row26 rfl (.tmp 1) rfl b1 0 rfl (vwC v) (vwC_len hok.len) ((unhide M).at 0 _ rfl).range ?_
       refine Stp.go ?_))
  constructor
  go_wp2_with (
    first
    | (go_at_call 136
       refine (unhide (P12 _ (unhide M).first)).mono ?_
       rintro e W4 ⟨rfl, K4⟩
       replace M : Hid (Mm w W4 [(b1, 29, vwC v), (b2, 59, u8s (zs 64)), (b3, 59, u8s (zs 64))]) := hide ((unhide M).step K4)
       clear K4
       refine Stp.go ?_))
  constructor
  go_wp2_with (
    first
    | (refine wpLoadA row26 rfl (.tmp 1) rfl b1 0 rfl (vwC v) (vwC_len hok.len) ((unhide M).at 0 _ rfl).range ?_
       refine Stp.go ?_))
  constructor
  go_wp2_with (
    first
    | (refine wpLoadA row26 rfl (.global 0) rfl 0 0 rfl (vwC fv) rfl (unhide M).first.at0 ?_
       refine Stp.go ?_))
  constructor
  go_wp2_with (
    first
    | (refine wpEqlA 29 29 guard26 (.tmp 13) (.tmp 14) rfl rfl (vwC v) (vwC fv) rfl rfl false ((equal26 _ v fv hok.len rfl).trans (by rw [hq])) ?_
       refine Stp.go ?_))
  constructor
  go_wp2_with (
    first
    | (refine wpStoreM1 size5 rfl (.tmp 17) (.const (.int .u8 193)) rfl rfl b3 0 2 (.int .u8 193) ⟨rfl, rfl⟩ rfl rfl (unhide M) rfl (by simp [u8s, zs]) ?_
       intro W5 N5
       replace M : Hid (Mm w W5 [(b1, 29, vwC v), (b2, 59, u8s (zs 64)), (b3, 59, u8s ([193, 0, 0, 0] ++ zs 60))]) := hide N5
       clear N5
       have c1 : W5.cell? ⟨b1, 1, none⟩ = some (.bool true) := by rw [← hop]; exact fits_cell ((unhide M).at 0 _ rfl) 1 _ rfl
       refine Stp.go ?_))
  constructor
  go_wp2_with (
    first
    | (refine wpStoreM1 size5 rfl (.tmp 20) (.const (.int .u8 1)) rfl rfl b3 1 2 (.int .u8 1) ⟨rfl, rfl⟩ rfl rfl (unhide M) rfl (by simp [u8s, zs]) ?_
       intro W6 N6
       replace M : Hid (Mm w W6 [(b1, 29, vwC v), (b2, 59, u8s (zs 64)), (b3, 59, u8s ([193, 1, 0, 0] ++ zs 60))]) := hide N6
       clear N6
       clear c1
       have c2 := fits_cell ((unhide M).at 0 _ rfl) 2 _ rfl
       refine Stp.go ?_))
  constructor
  go_wp2_with (
    first
    | (refine wpStoreM1 size5 rfl (.tmp 24) (.tmp 23) rfl rfl b3 2 2 (.int .u8 (v.fd % 256)) ⟨rfl, rfl⟩ rfl rfl (unhide M) rfl (by simp [u8s, zs]) ?_
       intro W7 N7
       replace M : Hid (Mm w W7 [(b1, 29, vwC v), (b2, 59, u8s (zs 64)), (b3, 59, u8s ([193, 1, v.fd % 256, 0] ++ zs 60))]) := hide N7
       clear N7
       clear c2
       refine Stp.go ?_))
  constructor
  go_wp2_with fail
  refine wp_region_any mixed (wpAny_gx 4 rfl (by kernel_rfl) [some (.slice (some ⟨b3, 4, none⟩) 8 60), some (.pointer (some ⟨b1, 0, none⟩)), some (.int .i64 v.nu), none] rfl (by kernel_rfl) (fun l vs W => (SP w (fun S => [(b1, 29, vwC v), (b2, 59, u8s (zs 64)), (b3, 59, u8s S)]) ([193, 1, v.fd % 256, 0] ++ zs 60) (secL 1 (v.fd % 256) 0 v.nu [] 52) 3) (fun i => l.getD i false) vs W) (⟨_, (unhide M).drew, (fun _ => rfl), fun h => by cases h⟩) ?_ ?_)
  · intro ix o' hi ho a' w2 l vs hls hlf hJ hout hin hdep hnot
    match ix, ho with
    | 0, ho =>
      obtain rfl := Option.some.inj ho
      have e0 := hout 4 (by kernel_rfl)
      replace e0 : a'.eval (.tmp 4) = _ := e0.trans rfl
      exact o_sl28 (.tmp 4) rfl b3 e0 ⟨_, rfl, told_of rfl, keepG (St := (SP w (fun S => [(b1, 29, vwC v), (b2, 59, u8s (zs 64)), (b3, 59, u8s S)]) ([193, 1, v.fd % 256, 0] ++ zs 60) (secL 1 (v.fd % 256) 0 v.nu [] 52) 3)) [3] SP.loc (by omega) (by decide) hJ⟩
    | 1, ho =>
      obtain rfl := Option.some.inj ho
      have e0 := hout 1 (by kernel_rfl)
      replace e0 : a'.eval (.tmp 1) = _ := e0.trans rfl
      exact o_fld26a (.tmp 1) rfl b1 e0 ⟨_, rfl, told_of rfl, keepG (St := (SP w (fun S => [(b1, 29, vwC v), (b2, 59, u8s (zs 64)), (b3, 59, u8s S)]) ([193, 1, v.fd % 256, 0] ++ zs 60) (secL 1 (v.fd % 256) 0 v.nu [] 52) 3)) [3] SP.loc (by omega) (by decide) hJ⟩
    | 2, ho =>
      obtain rfl := Option.some.inj ho
      have e0 : a'.eval (.tmp 26) = .pointer (some ⟨b1, 0, none⟩) := by have h9 := hin 1 26 (by kernel_rfl) (by kernel_rfl); exact h9.1.trans (told_is _ h9.2 rfl)
      have hJ2 := hJ
      obtain ⟨S, hM, _, _⟩ := hJ2
      exact o_load2 (.tmp 26) rfl _ _ e0 (fits_cell (hM.at 0 _ rfl) 0 _ rfl) ⟨_, rfl, told_of rfl, keepG (St := (SP w (fun S => [(b1, 29, vwC v), (b2, 59, u8s (zs 64)), (b3, 59, u8s S)]) ([193, 1, v.fd % 256, 0] ++ zs 60) (secL 1 (v.fd % 256) 0 v.nu [] 52) 3)) [3] SP.loc (by omega) (by decide) hJ⟩
    | 3, ho =>
      obtain rfl := Option.some.inj ho
      have e0 : a'.eval (.tmp 25) = .slice (some ⟨b3, 4, none⟩) 8 60 := by have h9 := hin 0 25 (by kernel_rfl) (by kernel_rfl); exact h9.1.trans (told_is _ h9.2 rfl)
      have e1 : a'.eval (.tmp 27) = .int .i64 v.nu := by have h9 := hin 2 27 (by kernel_rfl) (by kernel_rfl); exact h9.1.trans (told_is _ h9.2 rfl)
      obtain ⟨S, hM, hS0, _⟩ := hJ
      obtain rfl := hS0 hlf
      refine wp_callF 157 _ _ rfl #[.slice (some ⟨b3, 4, none⟩) 8 60, .int .i64 v.nu] (by simp [e0, e1]) (cg32 _ _) ((put32 b3 8 4 v.nu [193, 1, v.fd % 256, 0] (zs 8) (zs 52) w2 (hM.at 2 _ rfl) rfl (by simp [zs]) 60 (by omega) (unhide HNU)).mono ?_)
      rintro e w3 ⟨rfl, hB3, hk3⟩
      exact ⟨_, rfl, _, rfl, told_no rfl, nextG (St := (SP w (fun S => [(b1, 29, vwC v), (b2, 59, u8s (zs 64)), (b3, 59, u8s S)]) ([193, 1, v.fd % 256, 0] ++ zs 60) (secL 1 (v.fd % 256) 0 v.nu [] 52) 3)) (by omega) ⟨_, hM.sec 2 rfl hB3 hk3, (fun h => by cases h), fun _ => rfl⟩⟩
  intro l_ vs4 V4 hl hJ htold
  have t0 : vs4 0 = .slice (some ⟨b3, 4, none⟩) 8 60 := told_is _ (htold 0 (by decide)) rfl
  have t1 : vs4 1 = .pointer (some ⟨b1, 0, none⟩) := told_is _ (htold 1 (by decide)) rfl
  have t2 : vs4 2 = .int .i64 v.nu := told_is _ (htold 2 (by decide)) rfl
  rw [show (List.range 4).map vs4 = [vs4 0, vs4 1, vs4 2, vs4 3] from rfl]
  simp only [t0, t1, t2, putAll, Act.put, List.setIfInBounds_toArray, List.set_cons_succ, List.set_cons_zero]
  clear t0 t1 t2 htold
  obtain ⟨S4, hM4, _, hS4⟩ := hJ
  obtain rfl := hS4 (hl 3 (by decide))
  replace M : Hid (Mm w V4 [(b1, 29, vwC v), (b2, 59, u8s (zs 64)), (b3, 59, u8s (secL 1 (v.fd % 256) 0 v.nu [] 52))]) := hide hM4
  clear hS4 hM4 hl P12
  go_wp2_with (
    first
    | (refine wpLoadA row24 (by rfl) (.tmp 29) (by rfl) b1 3 (by rfl) (memsC v.ms) (by rw [memsC_len, hok.len]) (Vw.range ((unhide M).at 0 _ rfl)) ?_
       refine Stp.go ?_))
  constructor
  go_wp2_with fail
  go_loopw [31] (fun i wr => ∃ j : Nat, j ≤ 8 ∧ i = .int .i64 j ∧ Hid (Mm w wr [(b1, 29, vwC v), (b2, 59, u8s (zs 64)), (b3, 59, u8s (secL 1 (v.fd % 256) (bitF 0 (v.ms.take j) : Nat) v.nu (v.ms.take j) (52 - 4 * j)))])) (fun i _ => 8 - (intOf i).toNat)
  case atStart => exact ⟨0, by omega, rfl, M⟩
  case round =>
    clear M
    obtain ⟨j, hj, rfl, M⟩ := hrel
    by_cases hlt : j < 8
    · obtain ⟨m, hm2⟩ : ∃ m, v.ms[j]? = some m := ⟨_, List.getElem?_eq_getElem (by rw [hok.len]; exact hlt)⟩
      have hltI : (j : Int) < 8 := by omega
      have hd : decide ((j : Int) < 8) = true := by simpa using hltI
      have HM := hide hm2
      have HJ8 := hide hlt
      have HLE : Hid (([193, 1, v.fd % 256, (bitF 0 (v.ms.take j) : Nat)] ++ be 8 v.nu ++ epB (v.ms.take j)).length = 12 + 4 * j) := by
        show _ = _
        simp only [List.length_append, List.length_cons, List.length_nil, be_len, epB_len, List.length_take, hok.len]
        omega
      have HAB : Hid (bitF 0 (v.ms.take j) < 2 ^ j) := by
        have := bitF_lt (v.ms.take j) 0
        rw [List.length_take, hok.len, show min j 8 = j by omega, Nat.zero_add] at this
        show _ < _
        omega
      have HME := hide (unhide HEP m (List.mem_of_getElem? hm2))
      have hbt := bitF_take v.ms 0 j m hm2
      have htk : v.ms.take (j + 1) = v.ms.take j ++ [m] := by rw [List.take_add_one, hm2]; rfl
      obtain ⟨mi, me⟩ := m
      cases mi with
      | false =>
        have HNX : Hid (([193, 1, v.fd % 256, ((bitF 0 (v.ms.take j) : Nat) : Int)] ++ be 8 v.nu ++ epB (v.ms.take j) ++ be 4 me ++ zs (48 - 4 * j)) = (secL 1 (v.fd % 256) (bitF 0 (v.ms.take (j + 1)) : Nat) v.nu (v.ms.take (j + 1)) (52 - 4 * (j + 1)))) := by
          show _ = _
          rw [htk, ← secL_next _ _ _ _ me (v.ms.take j) false j hlt, ← htk, hbt]
          rfl
        clear hbt htk hm2
        go_wp2_with (
          first
          | (refine wpIndex24 rfl (.tmp 30) (.tmp 31) rfl j v.ms hok.len (false, me) (unhide HM) rfl rfl ?_
             refine Stp.go ?_))
        constructor
        go_wp2_with (
          first
          | (refine wpAllocW (memC (false, 0)) zero23 6 rfl rfl rfl ?_
             intro W41 b41 e41 B41 K41
             replace M : Hid (Mm w W41 [(b1, 29, vwC v), (b2, 59, u8s (zs 64)), (b3, 59, u8s (secL 1 (v.fd % 256) (bitF 0 (v.ms.take j) : Nat) v.nu (v.ms.take j) (52 - 4 * j))), (b41, 26, memC (false, 0))]) := hide ((unhide M).new e41 B41 K41)
             clear e41 B41 K41
             refine Stp.go ?_))
        constructor
        go_wp2_with (
          first
          | (refine wpStoreM row23 rfl (.tmp 6) (.tmp 34) rfl rfl b41 3 (memC (false, me)) rfl rfl rfl (memC_one _) (unhide M) rfl rfl ?_
             intro W42 N42
             replace M : Hid (Mm w W42 [(b1, 29, vwC v), (b2, 59, u8s (zs 64)), (b3, 59, u8s (secL 1 (v.fd % 256) (bitF 0 (v.ms.take j) : Nat) v.nu (v.ms.take j) (52 - 4 * j))), (b41, 26, memC (false, me))]) := hide N42
             clear N42
             have d0 := fits_cell ((unhide M).at 3 _ rfl) 0 _ rfl
             refine Stp.go ?_))
        constructor
        go_wp2_with fail
        clear d0
        refine wp_region_any mixed (wpAny_gx 6 rfl (by kernel_rfl) [some (.slice (some ⟨b3, 0, none⟩) 64 64), some (.int .i64 j), some (.slice (some ⟨b3, 12 + 4 * j, none⟩) 4 (52 - 4 * j)), some (.pointer (some ⟨b41, 1, none⟩)), some (.int .i64 me), none] rfl (by kernel_rfl) (fun l vs W => (SP w (fun S => [(b1, 29, vwC v), (b2, 59, u8s (zs 64)), (b3, 59, u8s S), (b41, 26, memC (false, me))]) (secL 1 (v.fd % 256) (bitF 0 (v.ms.take j) : Nat) v.nu (v.ms.take j) (52 - 4 * j)) ([193, 1, v.fd % 256, ((bitF 0 (v.ms.take j) : Nat) : Int)] ++ be 8 v.nu ++ epB (v.ms.take j) ++ be 4 me ++ zs (48 - 4 * j)) 5) (fun i => l.getD i false) vs W) (⟨_, (unhide M).drew, (fun _ => rfl), fun h => by cases h⟩) ?_ ?_)
        · intro ix o' hi ho a' w2 l vs hls hlf hJ hout hin hdep hnot
          match ix, ho with
          | 0, ho =>
            obtain rfl := Option.some.inj ho
            have e0 := hout 4 (by kernel_rfl)
            replace e0 : a'.eval (.tmp 4) = _ := e0.trans rfl
            exact o_all28 (.tmp 4) rfl b3 e0 ⟨_, rfl, told_of rfl, keepG (St := (SP w (fun S => [(b1, 29, vwC v), (b2, 59, u8s (zs 64)), (b3, 59, u8s S), (b41, 26, memC (false, me))]) (secL 1 (v.fd % 256) (bitF 0 (v.ms.take j) : Nat) v.nu (v.ms.take j) (52 - 4 * j)) ([193, 1, v.fd % 256, ((bitF 0 (v.ms.take j) : Nat) : Int)] ++ be 8 v.nu ++ epB (v.ms.take j) ++ be 4 me ++ zs (48 - 4 * j)) 5)) [5] SP.loc (by omega) (by decide) hJ⟩
          | 1, ho =>
            obtain rfl := Option.some.inj ho
            have e0 := hout 5 (by kernel_rfl)
            replace e0 : a'.eval (.tmp 5) = _ := e0.trans rfl
            exact wp_move (.tmp 5) rfl _ e0 ⟨_, rfl, told_of rfl, keepG (St := (SP w (fun S => [(b1, 29, vwC v), (b2, 59, u8s (zs 64)), (b3, 59, u8s S), (b41, 26, memC (false, me))]) (secL 1 (v.fd % 256) (bitF 0 (v.ms.take j) : Nat) v.nu (v.ms.take j) (52 - 4 * j)) ([193, 1, v.fd % 256, ((bitF 0 (v.ms.take j) : Nat) : Int)] ++ be 8 v.nu ++ epB (v.ms.take j) ++ be 4 me ++ zs (48 - 4 * j)) 5)) [5] SP.loc (by omega) (by decide) hJ⟩
          | 2, ho =>
            obtain rfl := Option.some.inj ho
            have e0 : a'.eval (.tmp 43) = .slice (some ⟨b3, 0, none⟩) 64 64 := by have h9 := hin 0 43 (by kernel_rfl) (by kernel_rfl); exact h9.1.trans (told_is _ h9.2 rfl)
            have e1 : a'.eval (.tmp 44) = .int .i64 j := by have h9 := hin 1 44 (by kernel_rfl) (by kernel_rfl); exact h9.1.trans (told_is _ h9.2 rfl)
            refine wp_callF 156 _ _ rfl #[.slice (some ⟨b3, 0, none⟩) 64 64, .int .i64 j] (by simp [e0, e1]) (cg33 _ _) ((epoch33 b3 j w2 (unhide HJ8)).mono ?_)
            rintro e w3 ⟨rfl, rfl⟩
            exact ⟨_, rfl, _, rfl, told_of rfl, keepG (St := (SP w (fun S => [(b1, 29, vwC v), (b2, 59, u8s (zs 64)), (b3, 59, u8s S), (b41, 26, memC (false, me))]) (secL 1 (v.fd % 256) (bitF 0 (v.ms.take j) : Nat) v.nu (v.ms.take j) (52 - 4 * j)) ([193, 1, v.fd % 256, ((bitF 0 (v.ms.take j) : Nat) : Int)] ++ be 8 v.nu ++ epB (v.ms.take j) ++ be 4 me ++ zs (48 - 4 * j)) 5)) [5] SP.loc (by omega) (by decide) hJ⟩
          | 3, ho =>
            obtain rfl := Option.some.inj ho
            have e0 := hout 6 (by kernel_rfl)
            replace e0 : a'.eval (.tmp 6) = _ := e0.trans rfl
            exact o_fld23_1 (.tmp 6) rfl b41 e0 ⟨_, rfl, told_of rfl, keepG (St := (SP w (fun S => [(b1, 29, vwC v), (b2, 59, u8s (zs 64)), (b3, 59, u8s S), (b41, 26, memC (false, me))]) (secL 1 (v.fd % 256) (bitF 0 (v.ms.take j) : Nat) v.nu (v.ms.take j) (52 - 4 * j)) ([193, 1, v.fd % 256, ((bitF 0 (v.ms.take j) : Nat) : Int)] ++ be 8 v.nu ++ epB (v.ms.take j) ++ be 4 me ++ zs (48 - 4 * j)) 5)) [5] SP.loc (by omega) (by decide) hJ⟩
          | 4, ho =>
            obtain rfl := Option.some.inj ho
            have e0 : a'.eval (.tmp 46) = .pointer (some ⟨b41, 1, none⟩) := by have h9 := hin 3 46 (by kernel_rfl) (by kernel_rfl); exact h9.1.trans (told_is _ h9.2 rfl)
            have hJ2 := hJ
            obtain ⟨S, hM, _, _⟩ := hJ2
            exact o_load2 (.tmp 46) rfl _ _ e0 (fits_cell (hM.at 3 _ rfl) 1 _ rfl) ⟨_, rfl, told_of rfl, keepG (St := (SP w (fun S => [(b1, 29, vwC v), (b2, 59, u8s (zs 64)), (b3, 59, u8s S), (b41, 26, memC (false, me))]) (secL 1 (v.fd % 256) (bitF 0 (v.ms.take j) : Nat) v.nu (v.ms.take j) (52 - 4 * j)) ([193, 1, v.fd % 256, ((bitF 0 (v.ms.take j) : Nat) : Int)] ++ be 8 v.nu ++ epB (v.ms.take j) ++ be 4 me ++ zs (48 - 4 * j)) 5)) [5] SP.loc (by omega) (by decide) hJ⟩
          | 5, ho =>
            obtain rfl := Option.some.inj ho
            have e0 : a'.eval (.tmp 45) = .slice (some ⟨b3, 12 + 4 * j, none⟩) 4 (52 - 4 * j) := by have h9 := hin 2 45 (by kernel_rfl) (by kernel_rfl); exact h9.1.trans (told_is _ h9.2 rfl)
            have e1 : a'.eval (.tmp 47) = .int .i64 me := by have h9 := hin 4 47 (by kernel_rfl) (by kernel_rfl); exact h9.1.trans (told_is _ h9.2 rfl)
            obtain ⟨S, hM, hS0, _⟩ := hJ
            obtain rfl := hS0 hlf
            refine wp_callF 157 _ _ rfl #[.slice (some ⟨b3, 12 + 4 * j, none⟩) 4 (52 - 4 * j), .int .i64 me] (by simp [e0, e1]) (cg32 _ _) ((put32 b3 4 (12 + 4 * j) me ([193, 1, v.fd % 256, ((bitF 0 (v.ms.take j) : Nat) : Int)] ++ be 8 v.nu ++ epB (v.ms.take j)) (zs 4) (zs (48 - 4 * j)) w2 (by have h9 := hM.at 2 _ rfl; rw [show u8s (secL 1 (v.fd % 256) (bitF 0 (v.ms.take j) : Nat) v.nu (v.ms.take j) (52 - 4 * j)) = u8s (([193, 1, v.fd % 256, ((bitF 0 (v.ms.take j) : Nat) : Int)] ++ be 8 v.nu ++ epB (v.ms.take j)) ++ zs 4 ++ zs (48 - 4 * j)) from congrArg u8s (secL_cut _ _ _ _ _ _ (unhide HJ8))] at h9; exact h9) (unhide HLE) (by simp [zs]) _ (by omega) (unhide HME)).mono ?_)
            rintro e w3 ⟨rfl, hB3, hk3⟩
            exact ⟨_, rfl, _, rfl, told_no rfl, nextG (St := (SP w (fun S => [(b1, 29, vwC v), (b2, 59, u8s (zs 64)), (b3, 59, u8s S), (b41, 26, memC (false, me))]) (secL 1 (v.fd % 256) (bitF 0 (v.ms.take j) : Nat) v.nu (v.ms.take j) (52 - 4 * j)) ([193, 1, v.fd % 256, ((bitF 0 (v.ms.take j) : Nat) : Int)] ++ be 8 v.nu ++ epB (v.ms.take j) ++ be 4 me ++ zs (48 - 4 * j)) 5)) (by omega) ⟨_, hM.sec 2 rfl hB3 hk3, (fun h => by cases h), fun _ => rfl⟩⟩
        intro l6 vs6 V6 hl hJ htold
        have t0 : vs6 0 = .slice (some ⟨b3, 0, none⟩) 64 64 := told_is _ (htold 0 (by decide)) rfl
        have t1 : vs6 1 = .int .i64 j := told_is _ (htold 1 (by decide)) rfl
        have t2 : vs6 2 = .slice (some ⟨b3, 12 + 4 * j, none⟩) 4 (52 - 4 * j) := told_is _ (htold 2 (by decide)) rfl
        have t3 : vs6 3 = .pointer (some ⟨b41, 1, none⟩) := told_is _ (htold 3 (by decide)) rfl
        have t4 : vs6 4 = .int .i64 me := told_is _ (htold 4 (by decide)) rfl
        rw [show (List.range 6).map vs6 = [vs6 0, vs6 1, vs6 2, vs6 3, vs6 4, vs6 5] from rfl]
        simp only [t0, t1, t2, t3, t4, putAll, Act.put, List.setIfInBounds_toArray, List.set_cons_succ, List.set_cons_zero]
        clear t0 t1 t2 t3 t4 htold
        obtain ⟨S6, hM6, _, hS6⟩ := hJ
        obtain rfl := hS6 (hl 5 (by decide))
        replace M : Hid (Mm w V6 [(b1, 29, vwC v), (b2, 59, u8s (zs 64)), (b3, 59, u8s ([193, 1, v.fd % 256, ((bitF 0 (v.ms.take j) : Nat) : Int)] ++ be 8 v.nu ++ epB (v.ms.take j) ++ be 4 me ++ zs (48 - 4 * j))), (b41, 26, memC (false, me))]) := hide hM6
        clear hS6 hM6 hl
        go_wp2_with fail
        go_roundw
        case rel =>
          refine ⟨j + 1, by omega, by go_num, ?_⟩
          have h9 := unhide M
          rw [show ([193, 1, v.fd % 256, ((bitF 0 (v.ms.take j) : Nat) : Int)] ++ be 8 v.nu ++ epB (v.ms.take j) ++ be 4 me ++ zs (48 - 4 * j)) = (secL 1 (v.fd % 256) (bitF 0 (v.ms.take (j + 1)) : Nat) v.nu (v.ms.take (j + 1)) (52 - 4 * (j + 1))) from unhide HNX] at h9
          exact hide ⟨h9.kept, h9.first, h9.first0, fun y hy => h9.blk y (by simp at hy ⊢; rcases hy with rfl | rfl | rfl <;> simp), by have := h9.nd; simp at this ⊢; omega⟩
        case measure => simp [intOf]; omega
      | true =>
        have HNX : Hid (([193, 1, v.fd % 256, ((bitF 0 (v.ms.take j) + 2 ^ j : Nat) : Int)] ++ be 8 v.nu ++ epB (v.ms.take j) ++ be 4 me ++ zs (48 - 4 * j)) = (secL 1 (v.fd % 256) (bitF 0 (v.ms.take (j + 1)) : Nat) v.nu (v.ms.take (j + 1)) (52 - 4 * (j + 1)))) := by
          show _ = _
          rw [htk, ← secL_next _ _ _ _ me (v.ms.take j) true j hlt, ← htk, hbt, Nat.zero_add]
          rfl
        have HLE : Hid (([193, 1, v.fd % 256, ((bitF 0 (v.ms.take j) + 2 ^ j : Nat) : Int)] ++ be 8 v.nu ++ epB (v.ms.take j)).length = 12 + 4 * j) := unhide HLE
        clear hbt htk hm2
        go_wp2_with (
          first
          | (refine wpIndex24 rfl (.tmp 30) (.tmp 31) rfl j v.ms hok.len (true, me) (unhide HM) rfl rfl ?_
             refine Stp.go ?_))
        constructor
        go_wp2_with (
          first
          | (refine wpAllocW (memC (false, 0)) zero23 6 rfl rfl rfl ?_
             intro W41 b41 e41 B41 K41
             replace M : Hid (Mm w W41 [(b1, 29, vwC v), (b2, 59, u8s (zs 64)), (b3, 59, u8s (secL 1 (v.fd % 256) (bitF 0 (v.ms.take j) : Nat) v.nu (v.ms.take j) (52 - 4 * j))), (b41, 26, memC (false, 0))]) := hide ((unhide M).new e41 B41 K41)
             clear e41 B41 K41
             refine Stp.go ?_))
        constructor
        go_wp2_with (
          first
          | (refine wpStoreM row23 rfl (.tmp 6) (.tmp 34) rfl rfl b41 3 (memC (true, me)) rfl rfl rfl (memC_one _) (unhide M) rfl rfl ?_
             intro W42 N42
             replace M : Hid (Mm w W42 [(b1, 29, vwC v), (b2, 59, u8s (zs 64)), (b3, 59, u8s (secL 1 (v.fd % 256) (bitF 0 (v.ms.take j) : Nat) v.nu (v.ms.take j) (52 - 4 * j))), (b41, 26, memC (true, me))]) := hide N42
             clear N42
             have d0 := fits_cell ((unhide M).at 3 _ rfl) 0 _ rfl
             refine Stp.go ?_))
        constructor
        go_wp2_with fail
        clear d0
        refine wp_region_any mixed (wpAny_gx 7 rfl (by kernel_rfl) [some (.pointer (some ⟨b3, 3, none⟩)), some (.int .u8 ((bitF 0 (v.ms.take j) : Nat) : Int)), some (.int .i64 j), some (.int .u8 ((2 ^ j : Nat) : Int)), some (.int .u8 ((bitF 0 (v.ms.take j) + 2 ^ j : Nat) : Int)), some (.pointer (some ⟨b3, 3, none⟩)), none] rfl (by kernel_rfl) (fun l vs W => (SQ w (fun S => [(b1, 29, vwC v), (b2, 59, u8s (zs 64)), (b3, 59, u8s S), (b41, 26, memC (true, me))]) (secL 1 (v.fd % 256) (bitF 0 (v.ms.take j) : Nat) v.nu (v.ms.take j) (52 - 4 * j)) (secL 1 (v.fd % 256) (bitF 0 (v.ms.take j) + 2 ^ j : Nat) v.nu (v.ms.take j) (52 - 4 * j))) (fun i => l.getD i false) vs W) (⟨_, (unhide M).drew, (fun _ => rfl), (fun h => by cases h), (fun h => by cases h), fun h => by cases h⟩) ?_ ?_)
        · intro ix o' hi ho a' w2 l vs hls hlf hJ hout hin hdep hnot
          match ix, ho with
          | 0, ho =>
            obtain rfl := Option.some.inj ho
            have e0 := hout 4 (by kernel_rfl)
            replace e0 : a'.eval (.tmp 4) = _ := e0.trans rfl
            exact o_idx28 (.tmp 4) 3 (by omega) rfl b3 e0 ⟨_, rfl, told_of rfl, keepG (St := (SQ w (fun S => [(b1, 29, vwC v), (b2, 59, u8s (zs 64)), (b3, 59, u8s S), (b41, 26, memC (true, me))]) (secL 1 (v.fd % 256) (bitF 0 (v.ms.take j) : Nat) v.nu (v.ms.take j) (52 - 4 * j)) (secL 1 (v.fd % 256) (bitF 0 (v.ms.take j) + 2 ^ j : Nat) v.nu (v.ms.take j) (52 - 4 * j)))) [1, 4, 6] SQ.loc (by omega) (by decide) hJ⟩
          | 1, ho =>
            obtain rfl := Option.some.inj ho
            have e0 : a'.eval (.tmp 37) = .pointer (some ⟨b3, 3, none⟩) := by have h9 := hin 0 37 (by kernel_rfl) (by kernel_rfl); exact h9.1.trans (told_is _ h9.2 rfl)
            obtain ⟨S, hM, hS0, hS1, h6, h4⟩ := hJ
            have h6f : l.getD 6 false = false := by
              cases h : l.getD 6 false with
              | false => rfl
              | true => have h1 : l.getD 1 false = true := h6 h; have h9 : l.getD 1 false = false := hlf; rw [h9] at h1; cases h1
            obtain rfl := hS0 h6f
            exact o_load5 (.tmp 37) rfl _ _ e0 (fits_cell (hM.at 2 _ rfl) 3 _ rfl) ⟨_, rfl, told_of rfl, nextG (St := (SQ w (fun S => [(b1, 29, vwC v), (b2, 59, u8s (zs 64)), (b3, 59, u8s S), (b41, 26, memC (true, me))]) (secL 1 (v.fd % 256) (bitF 0 (v.ms.take j) : Nat) v.nu (v.ms.take j) (52 - 4 * j)) (secL 1 (v.fd % 256) (bitF 0 (v.ms.take j) + 2 ^ j : Nat) v.nu (v.ms.take j) (52 - 4 * j)))) (by omega) ⟨_, hM, (fun _ => rfl), (fun h => by have h9 : l.getD 6 false = true := h; rw [h6f] at h9; cases h9), (fun _ => rfl), fun _ => rfl⟩⟩
          | 2, ho =>
            obtain rfl := Option.some.inj ho
            have e0 := hout 5 (by kernel_rfl)
            replace e0 : a'.eval (.tmp 5) = _ := e0.trans rfl
            exact wp_move (.tmp 5) rfl _ e0 ⟨_, rfl, told_of rfl, keepG (St := (SQ w (fun S => [(b1, 29, vwC v), (b2, 59, u8s (zs 64)), (b3, 59, u8s S), (b41, 26, memC (true, me))]) (secL 1 (v.fd % 256) (bitF 0 (v.ms.take j) : Nat) v.nu (v.ms.take j) (52 - 4 * j)) (secL 1 (v.fd % 256) (bitF 0 (v.ms.take j) + 2 ^ j : Nat) v.nu (v.ms.take j) (52 - 4 * j)))) [1, 4, 6] SQ.loc (by omega) (by decide) hJ⟩
          | 3, ho =>
            obtain rfl := Option.some.inj ho
            have e0 : a'.eval (.tmp 39) = .int .i64 j := by have h9 := hin 2 39 (by kernel_rfl) (by kernel_rfl); exact h9.1.trans (told_is _ h9.2 rfl)
            exact o_shl1 (.tmp 39) rfl j (unhide HJ8) e0 ⟨_, rfl, told_of rfl, keepG (St := (SQ w (fun S => [(b1, 29, vwC v), (b2, 59, u8s (zs 64)), (b3, 59, u8s S), (b41, 26, memC (true, me))]) (secL 1 (v.fd % 256) (bitF 0 (v.ms.take j) : Nat) v.nu (v.ms.take j) (52 - 4 * j)) (secL 1 (v.fd % 256) (bitF 0 (v.ms.take j) + 2 ^ j : Nat) v.nu (v.ms.take j) (52 - 4 * j)))) [1, 4, 6] SQ.loc (by omega) (by decide) hJ⟩
          | 4, ho =>
            obtain rfl := Option.some.inj ho
            have e0 : a'.eval (.tmp 38) = .int .u8 ((bitF 0 (v.ms.take j) : Nat) : Int) := by have h9 := hin 1 38 (by kernel_rfl) (by kernel_rfl); exact h9.1.trans (told_is _ h9.2 rfl)
            have e1 : a'.eval (.tmp 40) = .int .u8 ((2 ^ j : Nat) : Int) := by have h9 := hin 3 40 (by kernel_rfl) (by kernel_rfl); exact h9.1.trans (told_is _ h9.2 rfl)
            obtain ⟨S, hM, hS0, hS1, h6, h4⟩ := hJ
            have hd1 : l.getD 1 false = true := hdep 1 (by kernel_rfl)
            exact o_or8 (.tmp 38) (.tmp 40) rfl _ j (unhide HAB) (unhide HJ8) e0 e1 ⟨_, rfl, told_of rfl, nextG (St := (SQ w (fun S => [(b1, 29, vwC v), (b2, 59, u8s (zs 64)), (b3, 59, u8s S), (b41, 26, memC (true, me))]) (secL 1 (v.fd % 256) (bitF 0 (v.ms.take j) : Nat) v.nu (v.ms.take j) (52 - 4 * j)) (secL 1 (v.fd % 256) (bitF 0 (v.ms.take j) + 2 ^ j : Nat) v.nu (v.ms.take j) (52 - 4 * j)))) (by omega) ⟨_, hM, hS0, hS1, h6, fun _ => hd1⟩⟩
          | 5, ho =>
            obtain rfl := Option.some.inj ho
            have e0 := hout 4 (by kernel_rfl)
            replace e0 : a'.eval (.tmp 4) = _ := e0.trans rfl
            exact o_idx28 (.tmp 4) 3 (by omega) rfl b3 e0 ⟨_, rfl, told_of rfl, keepG (St := (SQ w (fun S => [(b1, 29, vwC v), (b2, 59, u8s (zs 64)), (b3, 59, u8s S), (b41, 26, memC (true, me))]) (secL 1 (v.fd % 256) (bitF 0 (v.ms.take j) : Nat) v.nu (v.ms.take j) (52 - 4 * j)) (secL 1 (v.fd % 256) (bitF 0 (v.ms.take j) + 2 ^ j : Nat) v.nu (v.ms.take j) (52 - 4 * j)))) [1, 4, 6] SQ.loc (by omega) (by decide) hJ⟩
          | 6, ho =>
            obtain rfl := Option.some.inj ho
            have e0 : a'.eval (.tmp 42) = .pointer (some ⟨b3, 3, none⟩) := by have h9 := hin 5 42 (by kernel_rfl) (by kernel_rfl); exact h9.1.trans (told_is _ h9.2 rfl)
            have e1 : a'.eval (.tmp 41) = .int .u8 ((bitF 0 (v.ms.take j) + 2 ^ j : Nat) : Int) := by have h9 := hin 4 41 (by kernel_rfl) (by kernel_rfl); exact h9.1.trans (told_is _ h9.2 rfl)
            obtain ⟨S, hM, hS0, hS1, h6, h4⟩ := hJ
            have hd4 : l.getD 4 false = true := hdep 4 (by kernel_rfl)
            obtain rfl := hS0 hlf
            exact o_st5 (.tmp 42) (.tmp 41) rfl b3 3 59 _ _ e0 e1 (hM.at 2 _ rfl) (by rw [u8s_len, secL_len]; omega) (fun W hB hK => ⟨undef, rfl, told_no rfl, nextG (St := (SQ w (fun S => [(b1, 29, vwC v), (b2, 59, u8s (zs 64)), (b3, 59, u8s S), (b41, 26, memC (true, me))]) (secL 1 (v.fd % 256) (bitF 0 (v.ms.take j) : Nat) v.nu (v.ms.take j) (52 - 4 * j)) (secL 1 (v.fd % 256) (bitF 0 (v.ms.take j) + 2 ^ j : Nat) v.nu (v.ms.take j) (52 - 4 * j)))) (by omega) ⟨(secL 1 (v.fd % 256) (bitF 0 (v.ms.take j) + 2 ^ j : Nat) v.nu (v.ms.take j) (52 - 4 * j)), hM.sec 2 rfl (show Blk W b3 59 (u8s (secL 1 (v.fd % 256) (bitF 0 (v.ms.take j) + 2 ^ j : Nat) v.nu (v.ms.take j) (52 - 4 * j))) from hB) hK, (fun h => by cases h), (fun _ => rfl), (fun _ => h4 hd4), h4⟩⟩)
        intro l5 vs5 V5 hl hJ htold
        have t0 : vs5 0 = .pointer (some ⟨b3, 3, none⟩) := told_is _ (htold 0 (by decide)) rfl
        have t1 : vs5 1 = .int .u8 ((bitF 0 (v.ms.take j) : Nat) : Int) := told_is _ (htold 1 (by decide)) rfl
        have t2 : vs5 2 = .int .i64 j := told_is _ (htold 2 (by decide)) rfl
        have t3 : vs5 3 = .int .u8 ((2 ^ j : Nat) : Int) := told_is _ (htold 3 (by decide)) rfl
        have t4 : vs5 4 = .int .u8 ((bitF 0 (v.ms.take j) + 2 ^ j : Nat) : Int) := told_is _ (htold 4 (by decide)) rfl
        have t5 : vs5 5 = .pointer (some ⟨b3, 3, none⟩) := told_is _ (htold 5 (by decide)) rfl
        rw [show (List.range 7).map vs5 = [vs5 0, vs5 1, vs5 2, vs5 3, vs5 4, vs5 5, vs5 6] from rfl]
        simp only [t0, t1, t2, t3, t4, t5, putAll, Act.put, List.setIfInBounds_toArray, List.set_cons_succ, List.set_cons_zero]
        clear t0 t1 t2 t3 t4 t5 htold
        obtain ⟨S5, hM5, _, hS5, _, _⟩ := hJ
        obtain rfl := hS5 (hl 6 (by decide))
        replace M : Hid (Mm w V5 [(b1, 29, vwC v), (b2, 59, u8s (zs 64)), (b3, 59, u8s (secL 1 (v.fd % 256) (bitF 0 (v.ms.take j) + 2 ^ j : Nat) v.nu (v.ms.take j) (52 - 4 * j))), (b41, 26, memC (true, me))]) := hide hM5
        clear hS5 hM5 hl
        go_wp2_with fail
        refine wp_region_any mixed (wpAny_gx 6 rfl (by kernel_rfl) [some (.slice (some ⟨b3, 0, none⟩) 64 64), some (.int .i64 j), some (.slice (some ⟨b3, 12 + 4 * j, none⟩) 4 (52 - 4 * j)), some (.pointer (some ⟨b41, 1, none⟩)), some (.int .i64 me), none] rfl (by kernel_rfl) (fun l vs W => (SP w (fun S => [(b1, 29, vwC v), (b2, 59, u8s (zs 64)), (b3, 59, u8s S), (b41, 26, memC (true, me))]) (secL 1 (v.fd % 256) (bitF 0 (v.ms.take j) + 2 ^ j : Nat) v.nu (v.ms.take j) (52 - 4 * j)) ([193, 1, v.fd % 256, ((bitF 0 (v.ms.take j) + 2 ^ j : Nat) : Int)] ++ be 8 v.nu ++ epB (v.ms.take j) ++ be 4 me ++ zs (48 - 4 * j)) 5) (fun i => l.getD i false) vs W) (⟨_, (unhide M).drew, (fun _ => rfl), fun h => by cases h⟩) ?_ ?_)
        · intro ix o' hi ho a' w2 l vs hls hlf hJ hout hin hdep hnot
          match ix, ho with
          | 0, ho =>
            obtain rfl := Option.some.inj ho
            have e0 := hout 4 (by kernel_rfl)
            replace e0 : a'.eval (.tmp 4) = _ := e0.trans rfl
            exact o_all28 (.tmp 4) rfl b3 e0 ⟨_, rfl, told_of rfl, keepG (St := (SP w (fun S => [(b1, 29, vwC v), (b2, 59, u8s (zs 64)), (b3, 59, u8s S), (b41, 26, memC (true, me))]) (secL 1 (v.fd % 256) (bitF 0 (v.ms.take j) + 2 ^ j : Nat) v.nu (v.ms.take j) (52 - 4 * j)) ([193, 1, v.fd % 256, ((bitF 0 (v.ms.take j) + 2 ^ j : Nat) : Int)] ++ be 8 v.nu ++ epB (v.ms.take j) ++ be 4 me ++ zs (48 - 4 * j)) 5)) [5] SP.loc (by omega) (by decide) hJ⟩
          | 1, ho =>
            obtain rfl := Option.some.inj ho
            have e0 := hout 5 (by kernel_rfl)
            replace e0 : a'.eval (.tmp 5) = _ := e0.trans rfl
            exact wp_move (.tmp 5) rfl _ e0 ⟨_, rfl, told_of rfl, keepG (St := (SP w (fun S => [(b1, 29, vwC v), (b2, 59, u8s (zs 64)), (b3, 59, u8s S), (b41, 26, memC (true, me))]) (secL 1 (v.fd % 256) (bitF 0 (v.ms.take j) + 2 ^ j : Nat) v.nu (v.ms.take j) (52 - 4 * j)) ([193, 1, v.fd % 256, ((bitF 0 (v.ms.take j) + 2 ^ j : Nat) : Int)] ++ be 8 v.nu ++ epB (v.ms.take j) ++ be 4 me ++ zs (48 - 4 * j)) 5)) [5] SP.loc (by omega) (by decide) hJ⟩
          | 2, ho =>
            obtain rfl := Option.some.inj ho
            have e0 : a'.eval (.tmp 43) = .slice (some ⟨b3, 0, none⟩) 64 64 := by have h9 := hin 0 43 (by kernel_rfl) (by kernel_rfl); exact h9.1.trans (told_is _ h9.2 rfl)
            have e1 : a'.eval (.tmp 44) = .int .i64 j := by have h9 := hin 1 44 (by kernel_rfl) (by kernel_rfl); exact h9.1.trans (told_is _ h9.2 rfl)
            refine wp_callF 156 _ _ rfl #[.slice (some ⟨b3, 0, none⟩) 64 64, .int .i64 j] (by simp [e0, e1]) (cg33 _ _) ((epoch33 b3 j w2 (unhide HJ8)).mono ?_)
            rintro e w3 ⟨rfl, rfl⟩
            exact ⟨_, rfl, _, rfl, told_of rfl, keepG (St := (SP w (fun S => [(b1, 29, vwC v), (b2, 59, u8s (zs 64)), (b3, 59, u8s S), (b41, 26, memC (true, me))]) (secL 1 (v.fd % 256) (bitF 0 (v.ms.take j) + 2 ^ j : Nat) v.nu (v.ms.take j) (52 - 4 * j)) ([193, 1, v.fd % 256, ((bitF 0 (v.ms.take j) + 2 ^ j : Nat) : Int)] ++ be 8 v.nu ++ epB (v.ms.take j) ++ be 4 me ++ zs (48 - 4 * j)) 5)) [5] SP.loc (by omega) (by decide) hJ⟩
          | 3, ho =>
            obtain rfl := Option.some.inj ho
            have e0 := hout 6 (by kernel_rfl)
            replace e0 : a'.eval (.tmp 6) = _ := e0.trans rfl
            exact o_fld23_1 (.tmp 6) rfl b41 e0 ⟨_, rfl, told_of rfl, keepG (St := (SP w (fun S => [(b1, 29, vwC v), (b2, 59, u8s (zs 64)), (b3, 59, u8s S), (b41, 26, memC (true, me))]) (secL 1 (v.fd % 256) (bitF 0 (v.ms.take j) + 2 ^ j : Nat) v.nu (v.ms.take j) (52 - 4 * j)) ([193, 1, v.fd % 256, ((bitF 0 (v.ms.take j) + 2 ^ j : Nat) : Int)] ++ be 8 v.nu ++ epB (v.ms.take j) ++ be 4 me ++ zs (48 - 4 * j)) 5)) [5] SP.loc (by omega) (by decide) hJ⟩
          | 4, ho =>
            obtain rfl := Option.some.inj ho
            have e0 : a'.eval (.tmp 46) = .pointer (some ⟨b41, 1, none⟩) := by have h9 := hin 3 46 (by kernel_rfl) (by kernel_rfl); exact h9.1.trans (told_is _ h9.2 rfl)
            have hJ2 := hJ
            obtain ⟨S, hM, _, _⟩ := hJ2
            exact o_load2 (.tmp 46) rfl _ _ e0 (fits_cell (hM.at 3 _ rfl) 1 _ rfl) ⟨_, rfl, told_of rfl, keepG (St := (SP w (fun S => [(b1, 29, vwC v), (b2, 59, u8s (zs 64)), (b3, 59, u8s S), (b41, 26, memC (true, me))]) (secL 1 (v.fd % 256) (bitF 0 (v.ms.take j) + 2 ^ j : Nat) v.nu (v.ms.take j) (52 - 4 * j)) ([193, 1, v.fd % 256, ((bitF 0 (v.ms.take j) + 2 ^ j : Nat) : Int)] ++ be 8 v.nu ++ epB (v.ms.take j) ++ be 4 me ++ zs (48 - 4 * j)) 5)) [5] SP.loc (by omega) (by decide) hJ⟩
          | 5, ho =>
            obtain rfl := Option.some.inj ho
            have e0 : a'.eval (.tmp 45) = .slice (some ⟨b3, 12 + 4 * j, none⟩) 4 (52 - 4 * j) := by have h9 := hin 2 45 (by kernel_rfl) (by kernel_rfl); exact h9.1.trans (told_is _ h9.2 rfl)
            have e1 : a'.eval (.tmp 47) = .int .i64 me := by have h9 := hin 4 47 (by kernel_rfl) (by kernel_rfl); exact h9.1.trans (told_is _ h9.2 rfl)
            obtain ⟨S, hM, hS0, _⟩ := hJ
            obtain rfl := hS0 hlf
            refine wp_callF 157 _ _ rfl #[.slice (some ⟨b3, 12 + 4 * j, none⟩) 4 (52 - 4 * j), .int .i64 me] (by simp [e0, e1]) (cg32 _ _) ((put32 b3 4 (12 + 4 * j) me ([193, 1, v.fd % 256, ((bitF 0 (v.ms.take j) + 2 ^ j : Nat) : Int)] ++ be 8 v.nu ++ epB (v.ms.take j)) (zs 4) (zs (48 - 4 * j)) w2 (by have h9 := hM.at 2 _ rfl; rw [show u8s (secL 1 (v.fd % 256) (bitF 0 (v.ms.take j) + 2 ^ j : Nat) v.nu (v.ms.take j) (52 - 4 * j)) = u8s (([193, 1, v.fd % 256, ((bitF 0 (v.ms.take j) + 2 ^ j : Nat) : Int)] ++ be 8 v.nu ++ epB (v.ms.take j)) ++ zs 4 ++ zs (48 - 4 * j)) from congrArg u8s (secL_cut _ _ _ _ _ _ (unhide HJ8))] at h9; exact h9) (unhide HLE) (by simp [zs]) _ (by omega) (unhide HME)).mono ?_)
            rintro e w3 ⟨rfl, hB3, hk3⟩
            exact ⟨_, rfl, _, rfl, told_no rfl, nextG (St := (SP w (fun S => [(b1, 29, vwC v), (b2, 59, u8s (zs 64)), (b3, 59, u8s S), (b41, 26, memC (true, me))]) (secL 1 (v.fd % 256) (bitF 0 (v.ms.take j) + 2 ^ j : Nat) v.nu (v.ms.take j) (52 - 4 * j)) ([193, 1, v.fd % 256, ((bitF 0 (v.ms.take j) + 2 ^ j : Nat) : Int)] ++ be 8 v.nu ++ epB (v.ms.take j) ++ be 4 me ++ zs (48 - 4 * j)) 5)) (by omega) ⟨_, hM.sec 2 rfl hB3 hk3, (fun h => by cases h), fun _ => rfl⟩⟩
        intro l6 vs6 V6 hl hJ htold
        have t0 : vs6 0 = .slice (some ⟨b3, 0, none⟩) 64 64 := told_is _ (htold 0 (by decide)) rfl
        have t1 : vs6 1 = .int .i64 j := told_is _ (htold 1 (by decide)) rfl
        have t2 : vs6 2 = .slice (some ⟨b3, 12 + 4 * j, none⟩) 4 (52 - 4 * j) := told_is _ (htold 2 (by decide)) rfl
        have t3 : vs6 3 = .pointer (some ⟨b41, 1, none⟩) := told_is _ (htold 3 (by decide)) rfl
        have t4 : vs6 4 = .int .i64 me := told_is _ (htold 4 (by decide)) rfl
        rw [show (List.range 6).map vs6 = [vs6 0, vs6 1, vs6 2, vs6 3, vs6 4, vs6 5] from rfl]
        simp only [t0, t1, t2, t3, t4, putAll, Act.put, List.setIfInBounds_toArray, List.set_cons_succ, List.set_cons_zero]
        clear t0 t1 t2 t3 t4 htold
        obtain ⟨S6, hM6, _, hS6⟩ := hJ
        obtain rfl := hS6 (hl 5 (by decide))
        replace M : Hid (Mm w V6 [(b1, 29, vwC v), (b2, 59, u8s (zs 64)), (b3, 59, u8s ([193, 1, v.fd % 256, ((bitF 0 (v.ms.take j) + 2 ^ j : Nat) : Int)] ++ be 8 v.nu ++ epB (v.ms.take j) ++ be 4 me ++ zs (48 - 4 * j))), (b41, 26, memC (true, me))]) := hide hM6
        clear hS6 hM6 hl
        go_wp2_with fail
        go_roundw
        case rel =>
          refine ⟨j + 1, by omega, by go_num, ?_⟩
          have h9 := unhide M
          rw [show ([193, 1, v.fd % 256, ((bitF 0 (v.ms.take j) + 2 ^ j : Nat) : Int)] ++ be 8 v.nu ++ epB (v.ms.take j) ++ be 4 me ++ zs (48 - 4 * j)) = (secL 1 (v.fd % 256) (bitF 0 (v.ms.take (j + 1)) : Nat) v.nu (v.ms.take (j + 1)) (52 - 4 * (j + 1))) from unhide HNX] at h9
          exact hide ⟨h9.kept, h9.first, h9.first0, fun y hy => h9.blk y (by simp at hy ⊢; rcases hy with rfl | rfl | rfl <;> simp), by have := h9.nd; simp at this ⊢; omega⟩
        case measure => simp [intOf]; omega
    · have HE : Hid (v.ms.take j = v.ms ∧ 52 - 4 * j = 20) := ⟨List.take_of_length_le (by rw [hok.len]; omega), by omega⟩
      have hd : decide ((j : Int) < 8) = false := by simp; omega
      replace M : Hid (Mm w wr [(b1, 29, vwC v), (b2, 59, u8s (zs 64)), (b3, 59, u8s (secL 1 (v.fd % 256) (bitF 0 v.ms : Nat) v.nu v.ms 20))]) := by have := unhide M; rw [(unhide HE).1, (unhide HE).2] at this; exact hide this
      have HL20 : Hid ((u8s (secL 1 (v.fd % 256) (bitF 0 v.ms : Nat) v.nu v.ms 20)).length = 64) := by show _ = _; rw [u8s_len, secL_len, hok.len]
      go_wp2_with (
        first
        | (refine wpLoadA row28 rfl (.tmp 4) rfl b3 0 rfl (u8s (secL 1 (v.fd % 256) (bitF 0 v.ms : Nat) v.nu v.ms 20)) (unhide HL20) ((unhide M).at 2 _ rfl).range ?_
           refine Stp.go ?_))
      constructor
      go_wp2_with (
        first
        | (refine wpStoreM row28 rfl (.tmp 2) (.tmp 50) rfl rfl b2 1 (u8s (secL 1 (v.fd % 256) (bitF 0 v.ms : Nat) v.nu v.ms 20)) rfl rfl (unhide HL20) (u8s_one _) (unhide M) rfl (zl 64) ?_
           intro W71 N71
           replace M : Hid (Mm w W71 [(b1, 29, vwC v), (b2, 59, u8s (secL 1 (v.fd % 256) (bitF 0 v.ms : Nat) v.nu v.ms 20)), (b3, 59, u8s (secL 1 (v.fd % 256) (bitF 0 v.ms : Nat) v.nu v.ms 20))]) := hide N71
           clear N71
           refine Stp.go ?_))
      constructor
      go_wp2_with fail
      refine bodyPost_ret (res8 _ b2 (u8s (secL 1 (v.fd % 256) (bitF 0 v.ms : Nat) v.nu v.ms 20)) 0 _ rfl rfl (unhide HL20) ((unhide M).at 1 _ rfl)) rfl ?_
      exact ⟨rfl, (unhide M).kept⟩
set_option maxHeartbeats 16000000 in
theorem put_false (v : Vw) (w : World) (hF : First w) (hok : v.Ok) (hm : v.may = true) (hq : decide (v = fv) = false) (hop : v.op = false) : Calls Tryz.prog 148 #[aggV (vwC v)] w fun e w' => e = .returned (.tuple #[aggV (u8s (secL 0 (v.fd % 256) (bitF 0 v.ms : Nat) v.nu v.ms 20)), .int .i64 0]) ∧ Kept [] w w' := by
  have P12 : ∀ W, First W → Hid (Calls Tryz.prog 136 #[aggV (vwC v)] W fun e w' => e = .returned (.bool true) ∧ Kept [] W w') := fun W hW => hide (by have := may12 v W hW hok.len; rw [hm] at this; exact this)
  have HNU := hide hok.nu
  have HEP := hide hok.ep
  go_enter Tryz.func148, Tryz.ntmps148
  have M : Hid (Mm w w []) := hide (Mm.init hF)
  go_wp2_with (
    first
    | (refine wpBoxV rfl (.tmp 0) rfl (vwC v) rfl ?_
       intro W1 b1 e1 B1 K1
       replace M : Hid (Mm w W1 [(b1, 29, vwC v)]) := hide ((unhide M).new e1 B1 K1)
       clear e1 B1 K1
       refine Stp.go ?_))
  constructor
  go_wp2_with (
    first
    | (refine wpAllocW (u8s (zs 64)) zero28 2 rfl rfl rfl ?_
       intro W2 b2 e2 B2 K2
       replace M : Hid (Mm w W2 [(b1, 29, vwC v), (b2, 59, u8s (zs 64))]) := hide ((unhide M).new e2 B2 K2)
       clear e2 B2 K2
       refine Stp.go ?_))
  constructor
  go_wp2_with (
    first
    | (refine wpAllocW (u8s (zs 64)) zero28 4 rfl rfl rfl ?_
       intro W3 b3 e3 B3 K3
       replace M : Hid (Mm w W3 [(b1, 29, vwC v), (b2, 59, u8s (zs 64)), (b3, 59, u8s (zs 64))]) := hide ((unhide M).new e3 B3 K3)
       clear e3 B3 K3
       refine Stp.go ?_))
  constructor
  go_wp2_with (
    first
    | (refine wpLoadA row26 rfl (.tmp 1) rfl b1 0 rfl (vwC v) (vwC_len hok.len) ((unhide M).at 0 _ rfl).range ?_
       refine Stp.go ?_))
  constructor
  go_wp2_with (
    first
    | (go_at_call 136
       refine (unhide (P12 _ (unhide M).first)).mono ?_
       rintro e W4 ⟨rfl, K4⟩
       replace M : Hid (Mm w W4 [(b1, 29, vwC v), (b2, 59, u8s (zs 64)), (b3, 59, u8s (zs 64))]) := hide ((unhide M).step K4)
       clear K4
       refine Stp.go ?_))
  constructor
  go_wp2_with (
    first
    | (refine wpLoadA row26 rfl (.tmp 1) rfl b1 0 rfl (vwC v) (vwC_len hok.len) ((unhide M).at 0 _ rfl).range ?_
       refine Stp.go ?_))
  constructor
  go_wp2_with (
    first
    | (refine wpLoadA row26 rfl (.global 0) rfl 0 0 rfl (vwC fv) rfl (unhide M).first.at0 ?_
       refine Stp.go ?_))
  constructor
  go_wp2_with (
    first
    | (refine wpEqlA 29 29 guard26 (.tmp 13) (.tmp 14) rfl rfl (vwC v) (vwC fv) rfl rfl false ((equal26 _ v fv hok.len rfl).trans (by rw [hq])) ?_
       refine Stp.go ?_))
  constructor
  go_wp2_with (
    first
    | (refine wpStoreM1 size5 rfl (.tmp 17) (.const (.int .u8 193)) rfl rfl b3 0 2 (.int .u8 193) ⟨rfl, rfl⟩ rfl rfl (unhide M) rfl (by simp [u8s, zs]) ?_
       intro W5 N5
       replace M : Hid (Mm w W5 [(b1, 29, vwC v), (b2, 59, u8s (zs 64)), (b3, 59, u8s ([193, 0, 0, 0] ++ zs 60))]) := hide N5
       clear N5
       have c1 : W5.cell? ⟨b1, 1, none⟩ = some (.bool false) := by rw [← hop]; exact fits_cell ((unhide M).at 0 _ rfl) 1 _ rfl
       have c2 := fits_cell ((unhide M).at 0 _ rfl) 2 _ rfl
       refine Stp.go ?_))
  constructor
  go_wp2_with (
    first
    | (refine wpStoreM1 size5 rfl (.tmp 24) (.tmp 23) rfl rfl b3 2 2 (.int .u8 (v.fd % 256)) ⟨rfl, rfl⟩ rfl rfl (unhide M) rfl (by simp [u8s, zs]) ?_
       intro W6 N6
       replace M : Hid (Mm w W6 [(b1, 29, vwC v), (b2, 59, u8s (zs 64)), (b3, 59, u8s ([193, 0, v.fd % 256, 0] ++ zs 60))]) := hide N6
       clear N6
       clear c2
       refine Stp.go ?_))
  constructor
  go_wp2_with fail
  refine wp_region_any mixed (wpAny_gx 4 rfl (by kernel_rfl) [some (.slice (some ⟨b3, 4, none⟩) 8 60), some (.pointer (some ⟨b1, 0, none⟩)), some (.int .i64 v.nu), none] rfl (by kernel_rfl) (fun l vs W => (SP w (fun S => [(b1, 29, vwC v), (b2, 59, u8s (zs 64)), (b3, 59, u8s S)]) ([193, 0, v.fd % 256, 0] ++ zs 60) (secL 0 (v.fd % 256) 0 v.nu [] 52) 3) (fun i => l.getD i false) vs W) (⟨_, (unhide M).drew, (fun _ => rfl), fun h => by cases h⟩) ?_ ?_)
  · intro ix o' hi ho a' w2 l vs hls hlf hJ hout hin hdep hnot
    match ix, ho with
    | 0, ho =>
      obtain rfl := Option.some.inj ho
      have e0 := hout 4 (by kernel_rfl)
      replace e0 : a'.eval (.tmp 4) = _ := e0.trans rfl
      exact o_sl28 (.tmp 4) rfl b3 e0 ⟨_, rfl, told_of rfl, keepG (St := (SP w (fun S => [(b1, 29, vwC v), (b2, 59, u8s (zs 64)), (b3, 59, u8s S)]) ([193, 0, v.fd % 256, 0] ++ zs 60) (secL 0 (v.fd % 256) 0 v.nu [] 52) 3)) [3] SP.loc (by omega) (by decide) hJ⟩
    | 1, ho =>
      obtain rfl := Option.some.inj ho
      have e0 := hout 1 (by kernel_rfl)
      replace e0 : a'.eval (.tmp 1) = _ := e0.trans rfl
      exact o_fld26a (.tmp 1) rfl b1 e0 ⟨_, rfl, told_of rfl, keepG (St := (SP w (fun S => [(b1, 29, vwC v), (b2, 59, u8s (zs 64)), (b3, 59, u8s S)]) ([193, 0, v.fd % 256, 0] ++ zs 60) (secL 0 (v.fd % 256) 0 v.nu [] 52) 3)) [3] SP.loc (by omega) (by decide) hJ⟩
    | 2, ho =>
      obtain rfl := Option.some.inj ho
      have e0 : a'.eval (.tmp 26) = .pointer (some ⟨b1, 0, none⟩) := by have h9 := hin 1 26 (by kernel_rfl) (by kernel_rfl); exact h9.1.trans (told_is _ h9.2 rfl)
      have hJ2 := hJ
      obtain ⟨S, hM, _, _⟩ := hJ2
      exact o_load2 (.tmp 26) rfl _ _ e0 (fits_cell (hM.at 0 _ rfl) 0 _ rfl) ⟨_, rfl, told_of rfl, keepG (St := (SP w (fun S => [(b1, 29, vwC v), (b2, 59, u8s (zs 64)), (b3, 59, u8s S)]) ([193, 0, v.fd % 256, 0] ++ zs 60) (secL 0 (v.fd % 256) 0 v.nu [] 52) 3)) [3] SP.loc (by omega) (by decide) hJ⟩
    | 3, ho =>
      obtain rfl := Option.some.inj ho
      have e0 : a'.eval (.tmp 25) = .slice (some ⟨b3, 4, none⟩) 8 60 := by have h9 := hin 0 25 (by kernel_rfl) (by kernel_rfl); exact h9.1.trans (told_is _ h9.2 rfl)
      have e1 : a'.eval (.tmp 27) = .int .i64 v.nu := by have h9 := hin 2 27 (by kernel_rfl) (by kernel_rfl); exact h9.1.trans (told_is _ h9.2 rfl)
      obtain ⟨S, hM, hS0, _⟩ := hJ
      obtain rfl := hS0 hlf
      refine wp_callF 157 _ _ rfl #[.slice (some ⟨b3, 4, none⟩) 8 60, .int .i64 v.nu] (by simp [e0, e1]) (cg32 _ _) ((put32 b3 8 4 v.nu [193, 0, v.fd % 256, 0] (zs 8) (zs 52) w2 (hM.at 2 _ rfl) rfl (by simp [zs]) 60 (by omega) (unhide HNU)).mono ?_)
      rintro e w3 ⟨rfl, hB3, hk3⟩
      exact ⟨_, rfl, _, rfl, told_no rfl, nextG (St := (SP w (fun S => [(b1, 29, vwC v), (b2, 59, u8s (zs 64)), (b3, 59, u8s S)]) ([193, 0, v.fd % 256, 0] ++ zs 60) (secL 0 (v.fd % 256) 0 v.nu [] 52) 3)) (by omega) ⟨_, hM.sec 2 rfl hB3 hk3, (fun h => by cases h), fun _ => rfl⟩⟩
  intro l_ vs4 V4 hl hJ htold
  have t0 : vs4 0 = .slice (some ⟨b3, 4, none⟩) 8 60 := told_is _ (htold 0 (by decide)) rfl
  have t1 : vs4 1 = .pointer (some ⟨b1, 0, none⟩) := told_is _ (htold 1 (by decide)) rfl
  have t2 : vs4 2 = .int .i64 v.nu := told_is _ (htold 2 (by decide)) rfl
  rw [show (List.range 4).map vs4 = [vs4 0, vs4 1, vs4 2, vs4 3] from rfl]
  simp only [t0, t1, t2, putAll, Act.put, List.setIfInBounds_toArray, List.set_cons_succ, List.set_cons_zero]
  clear t0 t1 t2 htold
  obtain ⟨S4, hM4, _, hS4⟩ := hJ
  obtain rfl := hS4 (hl 3 (by decide))
  replace M : Hid (Mm w V4 [(b1, 29, vwC v), (b2, 59, u8s (zs 64)), (b3, 59, u8s (secL 0 (v.fd % 256) 0 v.nu [] 52))]) := hide hM4
  clear hS4 hM4 hl P12
  go_wp2_with (
    first
    | (refine wpLoadA row24 (by rfl) (.tmp 29) (by rfl) b1 3 (by rfl) (memsC v.ms) (by rw [memsC_len, hok.len]) (Vw.range ((unhide M).at 0 _ rfl)) ?_
       refine Stp.go ?_))
  constructor
  go_wp2_with fail
  go_loopw [31] (fun i wr => ∃ j : Nat, j ≤ 8 ∧ i = .int .i64 j ∧ Hid (Mm w wr [(b1, 29, vwC v), (b2, 59, u8s (zs 64)), (b3, 59, u8s (secL 0 (v.fd % 256) (bitF 0 (v.ms.take j) : Nat) v.nu (v.ms.take j) (52 - 4 * j)))])) (fun i _ => 8 - (intOf i).toNat)
  case atStart => exact ⟨0, by omega, rfl, M⟩
  case round =>
    clear M
    obtain ⟨j, hj, rfl, M⟩ := hrel
    by_cases hlt : j < 8
    · obtain ⟨m, hm2⟩ : ∃ m, v.ms[j]? = some m := ⟨_, List.getElem?_eq_getElem (by rw [hok.len]; exact hlt)⟩
      have hltI : (j : Int) < 8 := by omega
      have hd : decide ((j : Int) < 8) = true := by simpa using hltI
      have HM := hide hm2
      have HJ8 := hide hlt
      have HLE : Hid (([193, 0, v.fd % 256, (bitF 0 (v.ms.take j) : Nat)] ++ be 8 v.nu ++ epB (v.ms.take j)).length = 12 + 4 * j) := by
        show _ = _
        simp only [List.length_append, List.length_cons, List.length_nil, be_len, epB_len, List.length_take, hok.len]
        omega
      have HAB : Hid (bitF 0 (v.ms.take j) < 2 ^ j) := by
        have := bitF_lt (v.ms.take j) 0
        rw [List.length_take, hok.len, show min j 8 = j by omega, Nat.zero_add] at this
        show _ < _
        omega
      have HME := hide (unhide HEP m (List.mem_of_getElem? hm2))
      have hbt := bitF_take v.ms 0 j m hm2
      have htk : v.ms.take (j + 1) = v.ms.take j ++ [m] := by rw [List.take_add_one, hm2]; rfl
      obtain ⟨mi, me⟩ := m
      cases mi with
      | false =>
        have HNX : Hid (([193, 0, v.fd % 256, ((bitF 0 (v.ms.take j) : Nat) : Int)] ++ be 8 v.nu ++ epB (v.ms.take j) ++ be 4 me ++ zs (48 - 4 * j)) = (secL 0 (v.fd % 256) (bitF 0 (v.ms.take (j + 1)) : Nat) v.nu (v.ms.take (j + 1)) (52 - 4 * (j + 1)))) := by
          show _ = _
          rw [htk, ← secL_next _ _ _ _ me (v.ms.take j) false j hlt, ← htk, hbt]
          rfl
        clear hbt htk hm2
        go_wp2_with (
          first
          | (refine wpIndex24 rfl (.tmp 30) (.tmp 31) rfl j v.ms hok.len (false, me) (unhide HM) rfl rfl ?_
             refine Stp.go ?_))
        constructor
        go_wp2_with (
          first
          | (refine wpAllocW (memC (false, 0)) zero23 6 rfl rfl rfl ?_
             intro W41 b41 e41 B41 K41
             replace M : Hid (Mm w W41 [(b1, 29, vwC v), (b2, 59, u8s (zs 64)), (b3, 59, u8s (secL 0 (v.fd % 256) (bitF 0 (v.ms.take j) : Nat) v.nu (v.ms.take j) (52 - 4 * j))), (b41, 26, memC (false, 0))]) := hide ((unhide M).new e41 B41 K41)
             clear e41 B41 K41
             refine Stp.go ?_))
        constructor
        go_wp2_with (
          first
          | (refine wpStoreM row23 rfl (.tmp 6) (.tmp 34) rfl rfl b41 3 (memC (false, me)) rfl rfl rfl (memC_one _) (unhide M) rfl rfl ?_
             intro W42 N42
             replace M : Hid (Mm w W42 [(b1, 29, vwC v), (b2, 59, u8s (zs 64)), (b3, 59, u8s (secL 0 (v.fd % 256) (bitF 0 (v.ms.take j) : Nat) v.nu (v.ms.take j) (52 - 4 * j))), (b41, 26, memC (false, me))]) := hide N42
             clear N42
             have d0 := fits_cell ((unhide M).at 3 _ rfl) 0 _ rfl
             refine Stp.go ?_))
        constructor
        go_wp2_with fail
        clear d0
        refine wp_region_any mixed (wpAny_gx 6 rfl (by kernel_rfl) [some (.slice (some ⟨b3, 0, none⟩) 64 64), some (.int .i64 j), some (.slice (some ⟨b3, 12 + 4 * j, none⟩) 4 (52 - 4 * j)), some (.pointer (some ⟨b41, 1, none⟩)), some (.int .i64 me), none] rfl (by kernel_rfl) (fun l vs W => (SP w (fun S => [(b1, 29, vwC v), (b2, 59, u8s (zs 64)), (b3, 59, u8s S), (b41, 26, memC (false, me))]) (secL 0 (v.fd % 256) (bitF 0 (v.ms.take j) : Nat) v.nu (v.ms.take j) (52 - 4 * j)) ([193, 0, v.fd % 256, ((bitF 0 (v.ms.take j) : Nat) : Int)] ++ be 8 v.nu ++ epB (v.ms.take j) ++ be 4 me ++ zs (48 - 4 * j)) 5) (fun i => l.getD i false) vs W) (⟨_, (unhide M).drew, (fun _ => rfl), fun h => by cases h⟩) ?_ ?_)
        · intro ix o' hi ho a' w2 l vs hls hlf hJ hout hin hdep hnot
          match ix, ho with
          | 0, ho =>
            obtain rfl := Option.some.inj ho
            have e0 := hout 4 (by kernel_rfl)
            replace e0 : a'.eval (.tmp 4) = _ := e0.trans rfl
            exact o_all28 (.tmp 4) rfl b3 e0 ⟨_, rfl, told_of rfl, keepG (St := (SP w (fun S => [(b1, 29, vwC v), (b2, 59, u8s (zs 64)), (b3, 59, u8s S), (b41, 26, memC (false, me))]) (secL 0 (v.fd % 256) (bitF 0 (v.ms.take j) : Nat) v.nu (v.ms.take j) (52 - 4 * j)) ([193, 0, v.fd % 256, ((bitF 0 (v.ms.take j) : Nat) : Int)] ++ be 8 v.nu ++ epB (v.ms.take j) ++ be 4 me ++ zs (48 - 4 * j)) 5)) [5] SP.loc (by omega) (by decide) hJ⟩
          | 1, ho =>
            obtain rfl := Option.some.inj ho
            have e0 := hout 5 (by kernel_rfl)
            replace e0 : a'.eval (.tmp 5) = _ := e0.trans rfl
            exact wp_move (.tmp 5) rfl _ e0 ⟨_, rfl, told_of rfl, keepG (St := (SP w (fun S => [(b1, 29, vwC v), (b2, 59, u8s (zs 64)), (b3, 59, u8s S), (b41, 26, memC (false, me))]) (secL 0 (v.fd % 256) (bitF 0 (v.ms.take j) : Nat) v.nu (v.ms.take j) (52 - 4 * j)) ([193, 0, v.fd % 256, ((bitF 0 (v.ms.take j) : Nat) : Int)] ++ be 8 v.nu ++ epB (v.ms.take j) ++ be 4 me ++ zs (48 - 4 * j)) 5)) [5] SP.loc (by omega) (by decide) hJ⟩
          | 2, ho =>
            obtain rfl := Option.some.inj ho
            have e0 : a'.eval (.tmp 43) = .slice (some ⟨b3, 0, none⟩) 64 64 := by have h9 := hin 0 43 (by kernel_rfl) (by kernel_rfl); exact h9.1.trans (told_is _ h9.2 rfl)
            have e1 : a'.eval (.tmp 44) = .int .i64 j := by have h9 := hin 1 44 (by kernel_rfl) (by kernel_rfl); exact h9.1.trans (told_is _ h9.2 rfl)
            refine wp_callF 156 _ _ rfl #[.slice (some ⟨b3, 0, none⟩) 64 64, .int .i64 j] (by simp [e0, e1]) (cg33 _ _) ((epoch33 b3 j w2 (unhide HJ8)).mono ?_)
            rintro e w3 ⟨rfl, rfl⟩
            exact ⟨_, rfl, _, rfl, told_of rfl, keepG (St := (SP w (fun S => [(b1, 29, vwC v), (b2, 59, u8s (zs 64)), (b3, 59, u8s S), (b41, 26, memC (false, me))]) (secL 0 (v.fd % 256) (bitF 0 (v.ms.take j) : Nat) v.nu (v.ms.take j) (52 - 4 * j)) ([193, 0, v.fd % 256, ((bitF 0 (v.ms.take j) : Nat) : Int)] ++ be 8 v.nu ++ epB (v.ms.take j) ++ be 4 me ++ zs (48 - 4 * j)) 5)) [5] SP.loc (by omega) (by decide) hJ⟩
          | 3, ho =>
            obtain rfl := Option.some.inj ho
            have e0 := hout 6 (by kernel_rfl)
            replace e0 : a'.eval (.tmp 6) = _ := e0.trans rfl
            exact o_fld23_1 (.tmp 6) rfl b41 e0 ⟨_, rfl, told_of rfl, keepG (St := (SP w (fun S => [(b1, 29, vwC v), (b2, 59, u8s (zs 64)), (b3, 59, u8s S), (b41, 26, memC (false, me))]) (secL 0 (v.fd % 256) (bitF 0 (v.ms.take j) : Nat) v.nu (v.ms.take j) (52 - 4 * j)) ([193, 0, v.fd % 256, ((bitF 0 (v.ms.take j) : Nat) : Int)] ++ be 8 v.nu ++ epB (v.ms.take j) ++ be 4 me ++ zs (48 - 4 * j)) 5)) [5] SP.loc (by omega) (by decide) hJ⟩
          | 4, ho =>
            obtain rfl := Option.some.inj ho
            have e0 : a'.eval (.tmp 46) = .pointer (some ⟨b41, 1, none⟩) := by have h9 := hin 3 46 (by kernel_rfl) (by kernel_rfl); exact h9.1.trans (told_is _ h9.2 rfl)
            have hJ2 := hJ
            obtain ⟨S, hM, _, _⟩ := hJ2
            exact o_load2 (.tmp 46) rfl _ _ e0 (fits_cell (hM.at 3 _ rfl) 1 _ rfl) ⟨_, rfl, told_of rfl, keepG (St := (SP w (fun S => [(b1, 29, vwC v), (b2, 59, u8s (zs 64)), (b3, 59, u8s S), (b41, 26, memC (false, me))]) (secL 0 (v.fd % 256) (bitF 0 (v.ms.take j) : Nat) v.nu (v.ms.take j) (52 - 4 * j)) ([193, 0, v.fd % 256, ((bitF 0 (v.ms.take j) : Nat) : Int)] ++ be 8 v.nu ++ epB (v.ms.take j) ++ be 4 me ++ zs (48 - 4 * j)) 5)) [5] SP.loc (by omega) (by decide) hJ⟩
          | 5, ho =>
            obtain rfl := Option.some.inj ho
            have e0 : a'.eval (.tmp 45) = .slice (some ⟨b3, 12 + 4 * j, none⟩) 4 (52 - 4 * j) := by have h9 := hin 2 45 (by kernel_rfl) (by kernel_rfl); exact h9.1.trans (told_is _ h9.2 rfl)
            have e1 : a'.eval (.tmp 47) = .int .i64 me := by have h9 := hin 4 47 (by kernel_rfl) (by kernel_rfl); exact h9.1.trans (told_is _ h9.2 rfl)
            obtain ⟨S, hM, hS0, _⟩ := hJ
            obtain rfl := hS0 hlf
            refine wp_callF 157 _ _ rfl #[.slice (some ⟨b3, 12 + 4 * j, none⟩) 4 (52 - 4 * j), .int .i64 me] (by simp [e0, e1]) (cg32 _ _) ((put32 b3 4 (12 + 4 * j) me ([193, 0, v.fd % 256, ((bitF 0 (v.ms.take j) : Nat) : Int)] ++ be 8 v.nu ++ epB (v.ms.take j)) (zs 4) (zs (48 - 4 * j)) w2 (by have h9 := hM.at 2 _ rfl; rw [show u8s (secL 0 (v.fd % 256) (bitF 0 (v.ms.take j) : Nat) v.nu (v.ms.take j) (52 - 4 * j)) = u8s (([193, 0, v.fd % 256, ((bitF 0 (v.ms.take j) : Nat) : Int)] ++ be 8 v.nu ++ epB (v.ms.take j)) ++ zs 4 ++ zs (48 - 4 * j)) from congrArg u8s (secL_cut _ _ _ _ _ _ (unhide HJ8))] at h9; exact h9) (unhide HLE) (by simp [zs]) _ (by omega) (unhide HME)).mono ?_)
            rintro e w3 ⟨rfl, hB3, hk3⟩
            exact ⟨_, rfl, _, rfl, told_no rfl, nextG (St := (SP w (fun S => [(b1, 29, vwC v), (b2, 59, u8s (zs 64)), (b3, 59, u8s S), (b41, 26, memC (false, me))]) (secL 0 (v.fd % 256) (bitF 0 (v.ms.take j) : Nat) v.nu (v.ms.take j) (52 - 4 * j)) ([193, 0, v.fd % 256, ((bitF 0 (v.ms.take j) : Nat) : Int)] ++ be 8 v.nu ++ epB (v.ms.take j) ++ be 4 me ++ zs (48 - 4 * j)) 5)) (by omega) ⟨_, hM.sec 2 rfl hB3 hk3, (fun h => by cases h), fun _ => rfl⟩⟩
        intro l6 vs6 V6 hl hJ htold
        have t0 : vs6 0 = .slice (some ⟨b3, 0, none⟩) 64 64 := told_is _ (htold 0 (by decide)) rfl
        have t1 : vs6 1 = .int .i64 j := told_is _ (htold 1 (by decide)) rfl
        have t2 : vs6 2 = .slice (some ⟨b3, 12 + 4 * j, none⟩) 4 (52 - 4 * j) := told_is _ (htold 2 (by decide)) rfl
        have t3 : vs6 3 = .pointer (some ⟨b41, 1, none⟩) := told_is _ (htold 3 (by decide)) rfl
        have t4 : vs6 4 = .int .i64 me := told_is _ (htold 4 (by decide)) rfl
        rw [show (List.range 6).map vs6 = [vs6 0, vs6 1, vs6 2, vs6 3, vs6 4, vs6 5] from rfl]
        simp only [t0, t1, t2, t3, t4, putAll, Act.put, List.setIfInBounds_toArray, List.set_cons_succ, List.set_cons_zero]
        clear t0 t1 t2 t3 t4 htold
        obtain ⟨S6, hM6, _, hS6⟩ := hJ
        obtain rfl := hS6 (hl 5 (by decide))
        replace M : Hid (Mm w V6 [(b1, 29, vwC v), (b2, 59, u8s (zs 64)), (b3, 59, u8s ([193, 0, v.fd % 256, ((bitF 0 (v.ms.take j) : Nat) : Int)] ++ be 8 v.nu ++ epB (v.ms.take j) ++ be 4 me ++ zs (48 - 4 * j))), (b41, 26, memC (false, me))]) := hide hM6
        clear hS6 hM6 hl
        go_wp2_with fail
        go_roundw
        case rel =>
          refine ⟨j + 1, by omega, by go_num, ?_⟩
          have h9 := unhide M
          rw [show ([193, 0, v.fd % 256, ((bitF 0 (v.ms.take j) : Nat) : Int)] ++ be 8 v.nu ++ epB (v.ms.take j) ++ be 4 me ++ zs (48 - 4 * j)) = (secL 0 (v.fd % 256) (bitF 0 (v.ms.take (j + 1)) : Nat) v.nu (v.ms.take (j + 1)) (52 - 4 * (j + 1))) from unhide HNX] at h9
          exact hide ⟨h9.kept, h9.first, h9.first0, fun y hy => h9.blk y (by simp at hy ⊢; rcases hy with rfl | rfl | rfl <;> simp), by have := h9.nd; simp at this ⊢; omega⟩
        case measure => simp [intOf]; omega
      | true =>
        have HNX : Hid (([193, 0, v.fd % 256, ((bitF 0 (v.ms.take j) + 2 ^ j : Nat) : Int)] ++ be 8 v.nu ++ epB (v.ms.take j) ++ be 4 me ++ zs (48 - 4 * j)) = (secL 0 (v.fd % 256) (bitF 0 (v.ms.take (j + 1)) : Nat) v.nu (v.ms.take (j + 1)) (52 - 4 * (j + 1)))) := by
          show _ = _
          rw [htk, ← secL_next _ _ _ _ me (v.ms.take j) true j hlt, ← htk, hbt, Nat.zero_add]
          rfl
        have HLE : Hid (([193, 0, v.fd % 256, ((bitF 0 (v.ms.take j) + 2 ^ j : Nat) : Int)] ++ be 8 v.nu ++ epB (v.ms.take j)).length = 12 + 4 * j) := unhide HLE
        clear hbt htk hm2
        go_wp2_with (
          first
          | (refine wpIndex24 rfl (.tmp 30) (.tmp 31) rfl j v.ms hok.len (true, me) (unhide HM) rfl rfl ?_
             refine Stp.go ?_))
        constructor
        go_wp2_with (
          first
          | (refine wpAllocW (memC (false, 0)) zero23 6 rfl rfl rfl ?_
             intro W41 b41 e41 B41 K41
             replace M : Hid (Mm w W41 [(b1, 29, vwC v), (b2, 59, u8s (zs 64)), (b3, 59, u8s (secL 0 (v.fd % 256) (bitF 0 (v.ms.take j) : Nat) v.nu (v.ms.take j) (52 - 4 * j))), (b41, 26, memC (false, 0))]) := hide ((unhide M).new e41 B41 K41)
             clear e41 B41 K41
             refine Stp.go ?_))
        constructor
        go_wp2_with (
          first
          | (refine wpStoreM row23 rfl (.tmp 6) (.tmp 34) rfl rfl b41 3 (memC (true, me)) rfl rfl rfl (memC_one _) (unhide M) rfl rfl ?_
             intro W42 N42
             replace M : Hid (Mm w W42 [(b1, 29, vwC v), (b2, 59, u8s (zs 64)), (b3, 59, u8s (secL 0 (v.fd % 256) (bitF 0 (v.ms.take j) : Nat) v.nu (v.ms.take j) (52 - 4 * j))), (b41, 26, memC (true, me))]) := hide N42
             clear N42
             have d0 := fits_cell ((unhide M).at 3 _ rfl) 0 _ rfl
             refine Stp.go ?_))
        constructor
        go_wp2_with fail
        clear d0
        refine wp_region_any mixed (wpAny_gx 7 rfl (by kernel_rfl) [some (.pointer (some ⟨b3, 3, none⟩)), some (.int .u8 ((bitF 0 (v.ms.take j) : Nat) : Int)), some (.int .i64 j), some (.int .u8 ((2 ^ j : Nat) : Int)), some (.int .u8 ((bitF 0 (v.ms.take j) + 2 ^ j : Nat) : Int)), some (.pointer (some ⟨b3, 3, none⟩)), none] rfl (by kernel_rfl) (fun l vs W => (SQ w (fun S => [(b1, 29, vwC v), (b2, 59, u8s (zs 64)), (b3, 59, u8s S), (b41, 26, memC (true, me))]) (secL 0 (v.fd % 256) (bitF 0 (v.ms.take j) : Nat) v.nu (v.ms.take j) (52 - 4 * j)) (secL 0 (v.fd % 256) (bitF 0 (v.ms.take j) + 2 ^ j : Nat) v.nu (v.ms.take j) (52 - 4 * j))) (fun i => l.getD i false) vs W) (⟨_, (unhide M).drew, (fun _ => rfl), (fun h => by cases h), (fun h => by cases h), fun h => by cases h⟩) ?_ ?_)
        · intro ix o' hi ho a' w2 l vs hls hlf hJ hout hin hdep hnot
          match ix, ho with
          | 0, ho =>
            obtain rfl := Option.some.inj ho
            have e0 := hout 4 (by kernel_rfl)
            replace e0 : a'.eval (.tmp 4) = _ := e0.trans rfl
            exact o_idx28 (.tmp 4) 3 (by omega) rfl b3 e0 ⟨_, rfl, told_of rfl, keepG (St := (SQ w (fun S => [(b1, 29, vwC v), (b2, 59, u8s (zs 64)), (b3, 59, u8s S), (b41, 26, memC (true, me))]) (secL 0 (v.fd % 256) (bitF 0 (v.ms.take j) : Nat) v.nu (v.ms.take j) (52 - 4 * j)) (secL 0 (v.fd % 256) (bitF 0 (v.ms.take j) + 2 ^ j : Nat) v.nu (v.ms.take j) (52 - 4 * j)))) [1, 4, 6] SQ.loc (by omega) (by decide) hJ⟩
          | 1, ho =>
            obtain rfl := Option.some.inj ho
            have e0 : a'.eval (.tmp 37) = .pointer (some ⟨b3, 3, none⟩) := by have h9 := hin 0 37 (by kernel_rfl) (by kernel_rfl); exact h9.1.trans (told_is _ h9.2 rfl)
            obtain ⟨S, hM, hS0, hS1, h6, h4⟩ := hJ
            have h6f : l.getD 6 false = false := by
              cases h : l.getD 6 false with
              | false => rfl
              | true => have h1 : l.getD 1 false = true := h6 h; have h9 : l.getD 1 false = false := hlf; rw [h9] at h1; cases h1
            obtain rfl := hS0 h6f
            exact o_load5 (.tmp 37) rfl _ _ e0 (fits_cell (hM.at 2 _ rfl) 3 _ rfl) ⟨_, rfl, told_of rfl, nextG (St := (SQ w (fun S => [(b1, 29, vwC v), (b2, 59, u8s (zs 64)), (b3, 59, u8s S), (b41, 26, memC (true, me))]) (secL 0 (v.fd % 256) (bitF 0 (v.ms.take j) : Nat) v.nu (v.ms.take j) (52 - 4 * j)) (secL 0 (v.fd % 256) (bitF 0 (v.ms.take j) + 2 ^ j : Nat) v.nu (v.ms.take j) (52 - 4 * j)))) (by omega) ⟨_, hM, (fun _ => rfl), (fun h => by have h9 : l.getD 6 false = true := h; rw [h6f] at h9; cases h9), (fun _ => rfl), fun _ => rfl⟩⟩
          | 2, ho =>
            obtain rfl := Option.some.inj ho
            have e0 := hout 5 (by kernel_rfl)
            replace e0 : a'.eval (.tmp 5) = _ := e0.trans rfl
            exact wp_move (.tmp 5) rfl _ e0 ⟨_, rfl, told_of rfl, keepG (St := (SQ w (fun S => [(b1, 29, vwC v), (b2, 59, u8s (zs 64)), (b3, 59, u8s S), (b41, 26, memC (true, me))]) (secL 0 (v.fd % 256) (bitF 0 (v.ms.take j) : Nat) v.nu (v.ms.take j) (52 - 4 * j)) (secL 0 (v.fd % 256) (bitF 0 (v.ms.take j) + 2 ^ j : Nat) v.nu (v.ms.take j) (52 - 4 * j)))) [1, 4, 6] SQ.loc (by omega) (by decide) hJ⟩
          | 3, ho =>
            obtain rfl := Option.some.inj ho
            have e0 : a'.eval (.tmp 39) = .int .i64 j := by have h9 := hin 2 39 (by kernel_rfl) (by kernel_rfl); exact h9.1.trans (told_is _ h9.2 rfl)
            exact o_shl1 (.tmp 39) rfl j (unhide HJ8) e0 ⟨_, rfl, told_of rfl, keepG (St := (SQ w (fun S => [(b1, 29, vwC v), (b2, 59, u8s (zs 64)), (b3, 59, u8s S), (b41, 26, memC (true, me))]) (secL 0 (v.fd % 256) (bitF 0 (v.ms.take j) : Nat) v.nu (v.ms.take j) (52 - 4 * j)) (secL 0 (v.fd % 256) (bitF 0 (v.ms.take j) + 2 ^ j : Nat) v.nu (v.ms.take j) (52 - 4 * j)))) [1, 4, 6] SQ.loc (by omega) (by decide) hJ⟩
          | 4, ho =>
            obtain rfl := Option.some.inj ho
            have e0 : a'.eval (.tmp 38) = .int .u8 ((bitF 0 (v.ms.take j) : Nat) : Int) := by have h9 := hin 1 38 (by kernel_rfl) (by kernel_rfl); exact h9.1.trans (told_is _ h9.2 rfl)
            have e1 : a'.eval (.tmp 40) = .int .u8 ((2 ^ j : Nat) : Int) := by have h9 := hin 3 40 (by kernel_rfl) (by kernel_rfl); exact h9.1.trans (told_is _ h9.2 rfl)
            obtain ⟨S, hM, hS0, hS1, h6, h4⟩ := hJ
            have hd1 : l.getD 1 false = true := hdep 1 (by kernel_rfl)
            exact o_or8 (.tmp 38) (.tmp 40) rfl _ j (unhide HAB) (unhide HJ8) e0 e1 ⟨_, rfl, told_of rfl, nextG (St := (SQ w (fun S => [(b1, 29, vwC v), (b2, 59, u8s (zs 64)), (b3, 59, u8s S), (b41, 26, memC (true, me))]) (secL 0 (v.fd % 256) (bitF 0 (v.ms.take j) : Nat) v.nu (v.ms.take j) (52 - 4 * j)) (secL 0 (v.fd % 256) (bitF 0 (v.ms.take j) + 2 ^ j : Nat) v.nu (v.ms.take j) (52 - 4 * j)))) (by omega) ⟨_, hM, hS0, hS1, h6, fun _ => hd1⟩⟩
          | 5, ho =>
            obtain rfl := Option.some.inj ho
            have e0 := hout 4 (by kernel_rfl)
            replace e0 : a'.eval (.tmp 4) = _ := e0.trans rfl
            exact o_idx28 (.tmp 4) 3 (by omega) rfl b3 e0 ⟨_, rfl, told_of rfl, keepG (St := (SQ w (fun S => [(b1, 29, vwC v), (b2, 59, u8s (zs 64)), (b3, 59, u8s S), (b41, 26, memC (true, me))]) (secL 0 (v.fd % 256) (bitF 0 (v.ms.take j) : Nat) v.nu (v.ms.take j) (52 - 4 * j)) (secL 0 (v.fd % 256) (bitF 0 (v.ms.take j) + 2 ^ j : Nat) v.nu (v.ms.take j) (52 - 4 * j)))) [1, 4, 6] SQ.loc (by omega) (by decide) hJ⟩
          | 6, ho =>
            obtain rfl := Option.some.inj ho
            have e0 : a'.eval (.tmp 42) = .pointer (some ⟨b3, 3, none⟩) := by have h9 := hin 5 42 (by kernel_rfl) (by kernel_rfl); exact h9.1.trans (told_is _ h9.2 rfl)
            have e1 : a'.eval (.tmp 41) = .int .u8 ((bitF 0 (v.ms.take j) + 2 ^ j : Nat) : Int) := by have h9 := hin 4 41 (by kernel_rfl) (by kernel_rfl); exact h9.1.trans (told_is _ h9.2 rfl)
            obtain ⟨S, hM, hS0, hS1, h6, h4⟩ := hJ
            have hd4 : l.getD 4 false = true := hdep 4 (by kernel_rfl)
            obtain rfl := hS0 hlf
            exact o_st5 (.tmp 42) (.tmp 41) rfl b3 3 59 _ _ e0 e1 (hM.at 2 _ rfl) (by rw [u8s_len, secL_len]; omega) (fun W hB hK => ⟨undef, rfl, told_no rfl, nextG (St := (SQ w (fun S => [(b1, 29, vwC v), (b2, 59, u8s (zs 64)), (b3, 59, u8s S), (b41, 26, memC (true, me))]) (secL 0 (v.fd % 256) (bitF 0 (v.ms.take j) : Nat) v.nu (v.ms.take j) (52 - 4 * j)) (secL 0 (v.fd % 256) (bitF 0 (v.ms.take j) + 2 ^ j : Nat) v.nu (v.ms.take j) (52 - 4 * j)))) (by omega) ⟨(secL 0 (v.fd % 256) (bitF 0 (v.ms.take j) + 2 ^ j : Nat) v.nu (v.ms.take j) (52 - 4 * j)), hM.sec 2 rfl (show Blk W b3 59 (u8s (secL 0 (v.fd % 256) (bitF 0 (v.ms.take j) + 2 ^ j : Nat) v.nu (v.ms.take j) (52 - 4 * j))) from hB) hK, (fun h => by cases h), (fun _ => rfl), (fun _ => h4 hd4), h4⟩⟩)
        intro l5 vs5 V5 hl hJ htold
        have t0 : vs5 0 = .pointer (some ⟨b3, 3, none⟩) := told_is _ (htold 0 (by decide)) rfl
        have t1 : vs5 1 = .int .u8 ((bitF 0 (v.ms.take j) : Nat) : Int) := told_is _ (htold 1 (by decide)) rfl
        have t2 : vs5 2 = .int .i64 j := told_is _ (htold 2 (by decide)) rfl
        have t3 : vs5 3 = .int .u8 ((2 ^ j : Nat) : Int) := told_is _ (htold 3 (by decide)) rfl
        have t4 : vs5 4 = .int .u8 ((bitF 0 (v.ms.take j) + 2 ^ j : Nat) : Int) := told_is _ (htold 4 (by decide)) rfl
        have t5 : vs5 5 = .pointer (some ⟨b3, 3, none⟩) := told_is _ (htold 5 (by decide)) rfl
        rw [show (List.range 7).map vs5 = [vs5 0, vs5 1, vs5 2, vs5 3, vs5 4, vs5 5, vs5 6] from rfl]
        simp only [t0, t1, t2, t3, t4, t5, putAll, Act.put, List.setIfInBounds_toArray, List.set_cons_succ, List.set_cons_zero]
        clear t0 t1 t2 t3 t4 t5 htold
        obtain ⟨S5, hM5, _, hS5, _, _⟩ := hJ
        obtain rfl := hS5 (hl 6 (by decide))
        replace M : Hid (Mm w V5 [(b1, 29, vwC v), (b2, 59, u8s (zs 64)), (b3, 59, u8s (secL 0 (v.fd % 256) (bitF 0 (v.ms.take j) + 2 ^ j : Nat) v.nu (v.ms.take j) (52 - 4 * j))), (b41, 26, memC (true, me))]) := hide hM5
        clear hS5 hM5 hl
        go_wp2_with fail
        refine wp_region_any mixed (wpAny_gx 6 rfl (by kernel_rfl) [some (.slice (some ⟨b3, 0, none⟩) 64 64), some (.int .i64 j), some (.slice (some ⟨b3, 12 + 4 * j, none⟩) 4 (52 - 4 * j)), some (.pointer (some ⟨b41, 1, none⟩)), some (.int .i64 me), none] rfl (by kernel_rfl) (fun l vs W => (SP w (fun S => [(b1, 29, vwC v), (b2, 59, u8s (zs 64)), (b3, 59, u8s S), (b41, 26, memC (true, me))]) (secL 0 (v.fd % 256) (bitF 0 (v.ms.take j) + 2 ^ j : Nat) v.nu (v.ms.take j) (52 - 4 * j)) ([193, 0, v.fd % 256, ((bitF 0 (v.ms.take j) + 2 ^ j : Nat) : Int)] ++ be 8 v.nu ++ epB (v.ms.take j) ++ be 4 me ++ zs (48 - 4 * j)) 5) (fun i => l.getD i false) vs W) (⟨_, (unhide M).drew, (fun _ => rfl), fun h => by cases h⟩) ?_ ?_)
        · intro ix o' hi ho a' w2 l vs hls hlf hJ hout hin hdep hnot
          match ix, ho with
          | 0, ho =>
            obtain rfl := Option.some.inj ho
            have e0 := hout 4 (by kernel_rfl)
            replace e0 : a'.eval (.tmp 4) = _ := e0.trans rfl
            exact o_all28 (.tmp 4) rfl b3 e0 ⟨_, rfl, told_of rfl, keepG (St := (SP w (fun S => [(b1, 29, vwC v), (b2, 59, u8s (zs 64)), (b3, 59, u8s S), (b41, 26, memC (true, me))]) (secL 0 (v.fd % 256) (bitF 0 (v.ms.take j) + 2 ^ j : Nat) v.nu (v.ms.take j) (52 - 4 * j)) ([193, 0, v.fd % 256, ((bitF 0 (v.ms.take j) + 2 ^ j : Nat) : Int)] ++ be 8 v.nu ++ epB (v.ms.take j) ++ be 4 me ++ zs (48 - 4 * j)) 5)) [5] SP.loc (by omega) (by decide) hJ⟩
          | 1, ho =>
            obtain rfl := Option.some.inj ho
            have e0 := hout 5 (by kernel_rfl)
            replace e0 : a'.eval (.tmp 5) = _ := e0.trans rfl
            exact wp_move (.tmp 5) rfl _ e0 ⟨_, rfl, told_of rfl, keepG (St := (SP w (fun S => [(b1, 29, vwC v), (b2, 59, u8s (zs 64)), (b3, 59, u8s S), (b41, 26, memC (true, me))]) (secL 0 (v.fd % 256) (bitF 0 (v.ms.take j) + 2 ^ j : Nat) v.nu (v.ms.take j) (52 - 4 * j)) ([193, 0, v.fd % 256, ((bitF 0 (v.ms.take j) + 2 ^ j : Nat) : Int)] ++ be 8 v.nu ++ epB (v.ms.take j) ++ be 4 me ++ zs (48 - 4 * j)) 5)) [5] SP.loc (by omega) (by decide) hJ⟩
          | 2, ho =>
            obtain rfl := Option.some.inj ho
            have e0 : a'.eval (.tmp 43) = .slice (some ⟨b3, 0, none⟩) 64 64 := by have h9 := hin 0 43 (by kernel_rfl) (by kernel_rfl); exact h9.1.trans (told_is _ h9.2 rfl)
            have e1 : a'.eval (.tmp 44) = .int .i64 j := by have h9 := hin 1 44 (by kernel_rfl) (by kernel_rfl); exact h9.1.trans (told_is _ h9.2 rfl)
            refine wp_callF 156 _ _ rfl #[.slice (some ⟨b3, 0, none⟩) 64 64, .int .i64 j] (by simp [e0, e1]) (cg33 _ _) ((epoch33 b3 j w2 (unhide HJ8)).mono ?_)
            rintro e w3 ⟨rfl, rfl⟩
            exact ⟨_, rfl, _, rfl, told_of rfl, keepG (St := (SP w (fun S => [(b1, 29, vwC v), (b2, 59, u8s (zs 64)), (b3, 59, u8s S), (b41, 26, memC (true, me))]) (secL 0 (v.fd % 256) (bitF 0 (v.ms.take j) + 2 ^ j : Nat) v.nu (v.ms.take j) (52 - 4 * j)) ([193, 0, v.fd % 256, ((bitF 0 (v.ms.take j) + 2 ^ j : Nat) : Int)] ++ be 8 v.nu ++ epB (v.ms.take j) ++ be 4 me ++ zs (48 - 4 * j)) 5)) [5] SP.loc (by omega) (by decide) hJ⟩
          | 3, ho =>
            obtain rfl := Option.some.inj ho
            have e0 := hout 6 (by kernel_rfl)
            replace e0 : a'.eval (.tmp 6) = _ := e0.trans rfl
            exact o_fld23_1 (.tmp 6) rfl b41 e0 ⟨_, rfl, told_of rfl, keepG (St := (SP w (fun S => [(b1, 29, vwC v), (b2, 59, u8s (zs 64)), (b3, 59, u8s S), (b41, 26, memC (true, me))]) (secL 0 (v.fd % 256) (bitF 0 (v.ms.take j) + 2 ^ j : Nat) v.nu (v.ms.take j) (52 - 4 * j)) ([193, 0, v.fd % 256, ((bitF 0 (v.ms.take j) + 2 ^ j : Nat) : Int)] ++ be 8 v.nu ++ epB (v.ms.take j) ++ be 4 me ++ zs (48 - 4 * j)) 5)) [5] SP.loc (by omega) (by decide) hJ⟩
          | 4, ho =>
            obtain rfl := Option.some.inj ho
            have e0 : a'.eval (.tmp 46) = .pointer (some ⟨b41, 1, none⟩) := by have h9 := hin 3 46 (by kernel_rfl) (by kernel_rfl); exact h9.1.trans (told_is _ h9.2 rfl)
            have hJ2 := hJ
            obtain ⟨S, hM, _, _⟩ := hJ2
            exact o_load2 (.tmp 46) rfl _ _ e0 (fits_cell (hM.at 3 _ rfl) 1 _ rfl) ⟨_, rfl, told_of rfl, keepG (St := (SP w (fun S => [(b1, 29, vwC v), (b2, 59, u8s (zs 64)), (b3, 59, u8s S), (b41, 26, memC (true, me))]) (secL 0 (v.fd % 256) (bitF 0 (v.ms.take j) + 2 ^ j : Nat) v.nu (v.ms.take j) (52 - 4 * j)) ([193, 0, v.fd % 256, ((bitF 0 (v.ms.take j) + 2 ^ j : Nat) : Int)] ++ be 8 v.nu ++ epB (v.ms.take j) ++ be 4 me ++ zs (48 - 4 * j)) 5)) [5] SP.loc (by omega) (by decide) hJ⟩
          | 5, ho =>
            obtain rfl := Option.some.inj ho
            have e0 : a'.eval (.tmp 45) = .slice (some ⟨b3, 12 + 4 * j, none⟩) 4 (52 - 4 * j) := by have h9 := hin 2 45 (by kernel_rfl) (by kernel_rfl); exact h9.1.trans (told_is _ h9.2 rfl)
            have e1 : a'.eval (.tmp 47) = .int .i64 me := by have h9 := hin 4 47 (by kernel_rfl) (by kernel_rfl); exact h9.1.trans (told_is _ h9.2 rfl)
            obtain ⟨S, hM, hS0, _⟩ := hJ
            obtain rfl := hS0 hlf
            refine wp_callF 157 _ _ rfl #[.slice (some ⟨b3, 12 + 4 * j, none⟩) 4 (52 - 4 * j), .int .i64 me] (by simp [e0, e1]) (cg32 _ _) ((put32 b3 4 (12 + 4 * j) me ([193, 0, v.fd % 256, ((bitF 0 (v.ms.take j) + 2 ^ j : Nat) : Int)] ++ be 8 v.nu ++ epB (v.ms.take j)) (zs 4) (zs (48 - 4 * j)) w2 (by have h9 := hM.at 2 _ rfl; rw [show u8s (secL 0 (v.fd % 256) (bitF 0 (v.ms.take j) + 2 ^ j : Nat) v.nu (v.ms.take j) (52 - 4 * j)) = u8s (([193, 0, v.fd % 256, ((bitF 0 (v.ms.take j) + 2 ^ j : Nat) : Int)] ++ be 8 v.nu ++ epB (v.ms.take j)) ++ zs 4 ++ zs (48 - 4 * j)) from congrArg u8s (secL_cut _ _ _ _ _ _ (unhide HJ8))] at h9; exact h9) (unhide HLE) (by simp [zs]) _ (by omega) (unhide HME)).mono ?_)
            rintro e w3 ⟨rfl, hB3, hk3⟩
            exact ⟨_, rfl, _, rfl, told_no rfl, nextG (St := (SP w (fun S => [(b1, 29, vwC v), (b2, 59, u8s (zs 64)), (b3, 59, u8s S), (b41, 26, memC (true, me))]) (secL 0 (v.fd % 256) (bitF 0 (v.ms.take j) + 2 ^ j : Nat) v.nu (v.ms.take j) (52 - 4 * j)) ([193, 0, v.fd % 256, ((bitF 0 (v.ms.take j) + 2 ^ j : Nat) : Int)] ++ be 8 v.nu ++ epB (v.ms.take j) ++ be 4 me ++ zs (48 - 4 * j)) 5)) (by omega) ⟨_, hM.sec 2 rfl hB3 hk3, (fun h => by cases h), fun _ => rfl⟩⟩
        intro l6 vs6 V6 hl hJ htold
        have t0 : vs6 0 = .slice (some ⟨b3, 0, none⟩) 64 64 := told_is _ (htold 0 (by decide)) rfl
        have t1 : vs6 1 = .int .i64 j := told_is _ (htold 1 (by decide)) rfl
        have t2 : vs6 2 = .slice (some ⟨b3, 12 + 4 * j, none⟩) 4 (52 - 4 * j) := told_is _ (htold 2 (by decide)) rfl
        have t3 : vs6 3 = .pointer (some ⟨b41, 1, none⟩) := told_is _ (htold 3 (by decide)) rfl
        have t4 : vs6 4 = .int .i64 me := told_is _ (htold 4 (by decide)) rfl
        rw [show (List.range 6).map vs6 = [vs6 0, vs6 1, vs6 2, vs6 3, vs6 4, vs6 5] from rfl]
        simp only [t0, t1, t2, t3, t4, putAll, Act.put, List.setIfInBounds_toArray, List.set_cons_succ, List.set_cons_zero]
        clear t0 t1 t2 t3 t4 htold
        obtain ⟨S6, hM6, _, hS6⟩ := hJ
        obtain rfl := hS6 (hl 5 (by decide))
        replace M : Hid (Mm w V6 [(b1, 29, vwC v), (b2, 59, u8s (zs 64)), (b3, 59, u8s ([193, 0, v.fd % 256, ((bitF 0 (v.ms.take j) + 2 ^ j : Nat) : Int)] ++ be 8 v.nu ++ epB (v.ms.take j) ++ be 4 me ++ zs (48 - 4 * j))), (b41, 26, memC (true, me))]) := hide hM6
        clear hS6 hM6 hl
        go_wp2_with fail
        go_roundw
        case rel =>
          refine ⟨j + 1, by omega, by go_num, ?_⟩
          have h9 := unhide M
          rw [show ([193, 0, v.fd % 256, ((bitF 0 (v.ms.take j) + 2 ^ j : Nat) : Int)] ++ be 8 v.nu ++ epB (v.ms.take j) ++ be 4 me ++ zs (48 - 4 * j)) = (secL 0 (v.fd % 256) (bitF 0 (v.ms.take (j + 1)) : Nat) v.nu (v.ms.take (j + 1)) (52 - 4 * (j + 1))) from unhide HNX] at h9
          exact hide ⟨h9.kept, h9.first, h9.first0, fun y hy => h9.blk y (by simp at hy ⊢; rcases hy with rfl | rfl | rfl <;> simp), by have := h9.nd; simp at this ⊢; omega⟩
        case measure => simp [intOf]; omega
    · have HE : Hid (v.ms.take j = v.ms ∧ 52 - 4 * j = 20) := ⟨List.take_of_length_le (by rw [hok.len]; omega), by omega⟩
      have hd : decide ((j : Int) < 8) = false := by simp; omega
      replace M : Hid (Mm w wr [(b1, 29, vwC v), (b2, 59, u8s (zs 64)), (b3, 59, u8s (secL 0 (v.fd % 256) (bitF 0 v.ms : Nat) v.nu v.ms 20))]) := by have := unhide M; rw [(unhide HE).1, (unhide HE).2] at this; exact hide this
      have HL20 : Hid ((u8s (secL 0 (v.fd % 256) (bitF 0 v.ms : Nat) v.nu v.ms 20)).length = 64) := by show _ = _; rw [u8s_len, secL_len, hok.len]
      go_wp2_with (
        first
        | (refine wpLoadA row28 rfl (.tmp 4) rfl b3 0 rfl (u8s (secL 0 (v.fd % 256) (bitF 0 v.ms : Nat) v.nu v.ms 20)) (unhide HL20) ((unhide M).at 2 _ rfl).range ?_
           refine Stp.go ?_))
      constructor
      go_wp2_with (
        first
        | (refine wpStoreM row28 rfl (.tmp 2) (.tmp 50) rfl rfl b2 1 (u8s (secL 0 (v.fd % 256) (bitF 0 v.ms : Nat) v.nu v.ms 20)) rfl rfl (unhide HL20) (u8s_one _) (unhide M) rfl (zl 64) ?_
           intro W71 N71
           replace M : Hid (Mm w W71 [(b1, 29, vwC v), (b2, 59, u8s (secL 0 (v.fd % 256) (bitF 0 v.ms : Nat) v.nu v.ms 20)), (b3, 59, u8s (secL 0 (v.fd % 256) (bitF 0 v.ms : Nat) v.nu v.ms 20))]) := hide N71
           clear N71
           refine Stp.go ?_))
      constructor
      go_wp2_with fail
      refine bodyPost_ret (res8 _ b2 (u8s (secL 0 (v.fd % 256) (bitF 0 v.ms : Nat) v.nu v.ms 20)) 0 _ rfl rfl (unhide HL20) ((unhide M).at 1 _ rfl)) rfl ?_
      exact ⟨rfl, (unhide M).kept⟩
def putV (v : Vw) : List Int × Int := if v.may = false then (zs 64, 2) else if v = fv then (zs 64, 0) else (secV v, 0)
theorem put8 (v : Vw) (w : World) (hF : First w) (hok : v.Ok) : Calls Tryz.prog 148 #[aggV (vwC v)] w fun e w' => e = .returned (.tuple #[aggV (u8s (putV v).1), .int .i64 (putV v).2]) ∧ Kept [] w w' := by
  unfold putV
  cases hm : v.may with
  | false => exact put_a v w hF hok.len hm
  | true =>
    by_cases hq : v = fv
    · rw [if_neg (by simp), if_pos hq]; exact put_b v w hF hok.len hm (by simpa using hq)
    · rw [if_neg (by simp), if_neg hq]
      unfold secV
      cases hop : v.op with
      | true => exact put_true v w hF hok hm (by simpa using hq) hop
      | false => exact put_false v w hF hok hm (by simpa using hq) hop

end Go.Proofs.YtcfflbafclmheaaGreatDoor.Vi
