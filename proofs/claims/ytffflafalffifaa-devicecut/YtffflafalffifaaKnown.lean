/-
  The walk of known: the chapter's rows.
-/
import Derived.Test.YtffflafalffifaaFull
namespace Go.Proofs.Ytffflafalffifaa
open Go.RowKit

def sS : List Int := fullS 115
def sT : List Int := fullS 116
theorem sS_sec : Sec sS := fullS_sec (by omega)
theorem sT_sec : Sec sT := fullS_sec (by omega)

-- The device of known, step by step.
def k0 : Dev := newDev 4 2
def k1 : Dev := (k0.up 0).2.2
def k2 : Dev := (k1.up 0).2.2
def k3 : Dev := (k2.write 0 2 2 [sS, sT]).2
def k4 : Dev := (k3.cut 1).2
def k5 : Dev := (k4.write 0 2 0 [sT, sT]).2
def k6 : Dev := (k5.write 0 2 1 [sS]).2
def k7 : Dev := (k6.swap 0 2 0 sT sS).2.2
def k8 : Dev := (k7.up 1).2.2
def k9 : Dev := k8.uncut
def k10 : Dev := k9.uncut
def k11 : Dev := (k10.swap 0 2 0 sS sT).2.2
def k12 : Dev := (k11.swap 0 2 0 sT sS).2.2
def k13 : Dev := (k12.fence 1 0 0 2).2
def k14 : Dev := (k13.write 0 2 0 [sT]).2
def k15 : Dev := (k14.fence 0 2 1 9).2
def k16 : Dev := (k15.fence 1 0 0 1).2

abbrev P0 (b : Nat) : Value := .pointer (some ⟨b, 0, none⟩)

theorem c_up0 (b g : Nat) (w : World) (h : Dv w b g k0) : Calls Try.prog 27 #[P0 b, .int .i64 0] w fun e w' => e = .returned (.tuple #[.int .i64 1, .int .i64 0]) ∧ Dv w' b g k1 ∧ Kept [b, g] w w' := up27 b g k0 0 w h
theorem c_up1 (b g : Nat) (w : World) (h : Dv w b g k1) : Calls Try.prog 27 #[P0 b, .int .i64 0] w fun e w' => e = .returned (.tuple #[.int .i64 2, .int .i64 0]) ∧ Dv w' b g k2 ∧ Kept [b, g] w w' := up27 b g k1 0 w h
theorem c_w1 (b g : Nat) (ao : Option Addr) (c : Nat) (w : World) (h : Dv w b g k2) (hs : Secs w ao 1 c [sS]) (ha : Away ao [b, g]) : Calls Try.prog 22 #[P0 b, .int .i64 0, .int .i64 1, .int .i64 0, .slice ao 1 c] w fun e w' => e = .returned (.int .i64 8) ∧ Dv w' b g k2 ∧ Kept [b, g] w w' := write22 b g k2 0 1 0 ao 1 c [sS] w h (by omega) (by omega) hs ha
theorem c_w2 (b g : Nat) (ao : Option Addr) (c : Nat) (w : World) (h : Dv w b g k2) (hs : Secs w ao 1 c [sS]) (ha : Away ao [b, g]) : Calls Try.prog 22 #[P0 b, .int .i64 0, .int .i64 3, .int .i64 0, .slice ao 1 c] w fun e w' => e = .returned (.int .i64 2) ∧ Dv w' b g k2 ∧ Kept [b, g] w w' := write22 b g k2 0 3 0 ao 1 c [sS] w h (by omega) (by omega) hs ha
theorem c_w3 (b g : Nat) (ao : Option Addr) (c : Nat) (w : World) (h : Dv w b g k2) (hs : Secs w ao 2 c [sS, sT]) (ha : Away ao [b, g]) : Calls Try.prog 22 #[P0 b, .int .i64 0, .int .i64 2, .int .i64 3, .slice ao 2 c] w fun e w' => e = .returned (.int .i64 2) ∧ Dv w' b g k2 ∧ Kept [b, g] w w' := write22 b g k2 0 2 3 ao 2 c [sS, sT] w h (by omega) (by omega) hs ha
theorem c_w4 (b g : Nat) (ao : Option Addr) (c : Nat) (w : World) (h : Dv w b g k2) (hs : Secs w ao 2 c [sS, sT]) (ha : Away ao [b, g]) : Calls Try.prog 22 #[P0 b, .int .i64 0, .int .i64 2, .int .i64 2, .slice ao 2 c] w fun e w' => e = .returned (.int .i64 0) ∧ Dv w' b g k3 ∧ Kept [b, g] w w' := write22 b g k2 0 2 2 ao 2 c [sS, sT] w h (by omega) (by omega) hs ha
theorem c_cut (b g : Nat) (w : World) (h : Dv w b g k3) : Calls Try.prog 25 #[P0 b, .int .i64 1] w fun e w' => e = .returned (.int .i64 0) ∧ Dv w' b g k4 ∧ Kept [b, g] w w' := cut25 b g k3 1 w h (by omega)
theorem c_w5 (b g : Nat) (ao : Option Addr) (c : Nat) (w : World) (h : Dv w b g k4) (hs : Secs w ao 2 c [sT, sT]) (ha : Away ao [b, g]) : Calls Try.prog 22 #[P0 b, .int .i64 0, .int .i64 2, .int .i64 0, .slice ao 2 c] w fun e w' => e = .returned (.int .i64 0) ∧ Dv w' b g k5 ∧ Kept [b, g] w w' := write22 b g k4 0 2 0 ao 2 c [sT, sT] w h (by omega) (by omega) hs ha
theorem c_w6 (b g : Nat) (ao : Option Addr) (c : Nat) (w : World) (h : Dv w b g k5) (hs : Secs w ao 1 c [sS]) (ha : Away ao [b, g]) : Calls Try.prog 22 #[P0 b, .int .i64 0, .int .i64 2, .int .i64 1, .slice ao 1 c] w fun e w' => e = .returned (.int .i64 0) ∧ Dv w' b g k6 ∧ Kept [b, g] w w' := write22 b g k5 0 2 1 ao 1 c [sS] w h (by omega) (by omega) hs ha
theorem c_s1 (b g : Nat) (w : World) (h : Dv w b g k6) : Calls Try.prog 30 #[P0 b, .int .i64 0, .int .i64 2, .int .i64 0, secV sT, secV sS] w fun e w' => e = .returned (.tuple #[.bool true, .int .i64 0]) ∧ Dv w' b g k7 ∧ Kept [b, g] w w' := swap30 b g k6 0 2 0 sT sS w h (by omega) sT_sec sS_sec
theorem c_up2 (b g : Nat) (w : World) (h : Dv w b g k7) : Calls Try.prog 27 #[P0 b, .int .i64 1] w fun e w' => e = .returned (.tuple #[.int .i64 1, .int .i64 0]) ∧ Dv w' b g k8 ∧ Kept [b, g] w w' := up27 b g k7 1 w h
theorem c_wh1 (b g : Nat) (w : World) (h : Dv w b g k8) : Calls Try.prog 20 #[P0 b] w fun e w' => e = .returned (.bool false) ∧ Dv w' b g k9 ∧ Kept [b, g] w w' := whole20 b g k8 w h
theorem c_ep1 (b g : Nat) (w : World) (h : Dv w b g k9) : Calls Try.prog 19 #[P0 b, .int .i64 1] w fun e w' => e = .returned (.tuple #[.int .i64 0, .int .i64 0]) ∧ w' = w := epoch19 b g k9 1 w h
theorem c_wh2 (b g : Nat) (w : World) (h : Dv w b g k9) : Calls Try.prog 20 #[P0 b] w fun e w' => e = .returned (.bool true) ∧ Dv w' b g k10 ∧ Kept [b, g] w w' := whole20 b g k9 w h
theorem c_r0 (b g : Nat) (w : World) (h : Dv w b g k10) : Calls Try.prog 26 #[P0 b, .int .i64 0] w fun e w' => e = .returned (.tuple #[secV sT, .int .i64 0]) ∧ Kept [] w w' := read26 b g k10 0 w h (by omega)
theorem c_r1 (b g : Nat) (w : World) (h : Dv w b g k10) : Calls Try.prog 26 #[P0 b, .int .i64 1] w fun e w' => e = .returned (.tuple #[secV nought, .int .i64 0]) ∧ Kept [] w w' := read26 b g k10 1 w h (by omega)
theorem c_s2 (b g : Nat) (w : World) (h : Dv w b g k10) : Calls Try.prog 30 #[P0 b, .int .i64 0, .int .i64 2, .int .i64 0, secV sS, secV sT] w fun e w' => e = .returned (.tuple #[.bool false, .int .i64 0]) ∧ Dv w' b g k11 ∧ Kept [b, g] w w' := swap30 b g k10 0 2 0 sS sT w h (by omega) sS_sec sT_sec
theorem c_s3 (b g : Nat) (w : World) (h : Dv w b g k11) : Calls Try.prog 30 #[P0 b, .int .i64 0, .int .i64 2, .int .i64 0, secV sT, secV sS] w fun e w' => e = .returned (.tuple #[.bool true, .int .i64 0]) ∧ Dv w' b g k12 ∧ Kept [b, g] w w' := swap30 b g k11 0 2 0 sT sS w h (by omega) sT_sec sS_sec
theorem c_r2 (b g : Nat) (w : World) (h : Dv w b g k12) : Calls Try.prog 26 #[P0 b, .int .i64 0] w fun e w' => e = .returned (.tuple #[secV sS, .int .i64 0]) ∧ Kept [] w w' := read26 b g k12 0 w h (by omega)
theorem c_f1 (b g : Nat) (w : World) (h : Dv w b g k12) : Calls Try.prog 24 #[P0 b, .int .i64 1, .int .i64 0, .int .i64 0, .int .i64 2] w fun e w' => e = .returned (.int .i64 0) ∧ Dv w' b g k13 ∧ Kept [b, g] w w' := fence24 b g k12 1 0 0 2 w h
set_option maxRecDepth 100000 in
theorem c_w7 (b g : Nat) (ao : Option Addr) (c : Nat) (w : World) (h : Dv w b g k13) (hs : Secs w ao 1 c [sT]) (ha : Away ao [b, g]) : Calls Try.prog 22 #[P0 b, .int .i64 0, .int .i64 2, .int .i64 0, .slice ao 1 c] w fun e w' => e = .returned (.int .i64 8) ∧ Dv w' b g k14 ∧ Kept [b, g] w w' := write22 b g k13 0 2 0 ao 1 c [sT] w h (by omega) (by omega) hs ha
set_option maxRecDepth 100000 in
theorem c_f2 (b g : Nat) (w : World) (h : Dv w b g k14) : Calls Try.prog 24 #[P0 b, .int .i64 0, .int .i64 2, .int .i64 1, .int .i64 9] w fun e w' => e = .returned (.int .i64 8) ∧ Dv w' b g k15 ∧ Kept [b, g] w w' := fence24 b g k14 0 2 1 9 w h
set_option maxRecDepth 100000 in
theorem c_f3 (b g : Nat) (w : World) (h : Dv w b g k15) : Calls Try.prog 24 #[P0 b, .int .i64 1, .int .i64 0, .int .i64 0, .int .i64 1] w fun e w' => e = .returned (.int .i64 0) ∧ Dv w' b g k16 ∧ Kept [b, g] w w' := fence24 b g k15 1 0 0 1 w h
set_option maxRecDepth 100000 in
theorem c_ep2 (b g : Nat) (w : World) (h : Dv w b g k16) : Calls Try.prog 19 #[P0 b, .int .i64 0] w fun e w' => e = .returned (.tuple #[.int .i64 3, .int .i64 0]) ∧ w' = w := epoch19 b g k16 0 w h

end Go.Proofs.Ytffflafalffifaa
