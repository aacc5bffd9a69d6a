/-
  The walks of the closures that put numbers into a sector and take them out of it.
-/
import Derived.Test.YtmeajhdhiebkdaaDoorRcSmall
import Derived.Laws.BitsAllLaws
namespace Go.Proofs.YtmeajhdhiebkdaaDoor.Rc
set_option maxRecDepth 100000
open Go.RowKit

/-- A number's last m bytes, the highest one first. -/
def be : Nat → Int → List Int
  | 0, _ => []
  | m + 1, n => n / 256 ^ m % 256 :: be m n
theorem be_len (n : Int) : ∀ m, (be m n).length = m
  | 0 => rfl
  | m + 1 => by simp [be, be_len n m]
/-- A sector whose first bytes are these. -/
def secOf (d : List Int) : List Int := d ++ zs (64 - d.length)
theorem secOf_len {d : List Int} (h : d.length ≤ 64) : (secOf d).length = 64 := by simp [secOf, zs]; omega
theorem secOf_add (d : List Int) (x : Int) (h : d.length < 64) : (secOf d).set d.length x = secOf (d ++ [x]) := by
  unfold secOf
  obtain ⟨k, hk⟩ : ∃ k, 64 - d.length = k + 1 := ⟨63 - d.length, by omega⟩
  have h2 : 64 - (d ++ [x]).length = k := by simp; omega
  rw [hk, h2]
  simp [zs, List.replicate_succ]
/-- What a putter knows: the sector, where it lies, and how far it is. -/
structure Pw (w : World) (b c1 c3 : Nat) (d : List Int) : Prop where
  sec : Blk w b 80 (u8s (secOf d))
  ptr : Blk w c1 122 [P0 b]
  at' : Blk w c3 3 [.int .i64 d.length]
  n1 : b ≠ c1
  n2 : b ≠ c3
  n3 : c1 ≠ c3

/-- A byte is put: the place is not yet moved. -/
structure Pwm (w : World) (b c1 c3 : Nat) (d : List Int) : Prop where
  sec : Blk w b 80 (u8s (secOf d))
  ptr : Blk w c1 122 [P0 b]
  n1 : b ≠ c1
  n2 : b ≠ c3
  n3 : c1 ≠ c3
theorem Pw.put {w : World} {b c1 c3 : Nat} {d : List Int} (h : Pw w b c1 c3 d) (x : Int) (hl : d.length < 64) : Pwm (w.setCell ⟨b, d.length, none⟩ (.int .u8 x)).drew b c1 c3 (d ++ [x]) ∧ Blk (w.setCell ⟨b, d.length, none⟩ (.int .u8 x)).drew c3 3 [.int .i64 d.length] := by
  refine ⟨⟨?_, (h.ptr.set_other (Ne.symm h.n1) _).drew, h.n1, h.n2, h.n3⟩, (h.at'.set_other (Ne.symm h.n2) _).drew⟩
  have := (h.sec.set (i := d.length) (.int .u8 x)).drew
  rw [u8s_set, secOf_add d x hl] at this
  exact this
theorem Pwm.step {w : World} {b c1 c3 : Nat} {d : List Int} {x y : Int} (h : Pwm w b c1 c3 (d ++ [x])) (hc : Blk w c3 3 [.int .i64 d.length]) (hy : y = d.length + 1 := by omega) : Pw (w.setCell ⟨c3, 0, none⟩ (.int .i64 y)) b c1 c3 (d ++ [x]) := by
  refine ⟨h.sec.set_other h.n2 _, h.ptr.set_other h.n3 _, ?_, h.n1, h.n2, h.n3⟩
  have := hc.set (i := 0) (.int .i64 y)
  subst hy
  simpa using this

set_option maxHeartbeats 1000000 in
theorem put47 (m : Nat) (hm : m ≤ 4) (n : Int) (hn : I64 n) (b c1 c3 : Nat) (d : List Int) (w : World) (h : Pw w b c1 c3 d) (hd : d.length + m ≤ 64) : Calls Tryd.prog 87 #[.int .i64 m, .int .i64 n, P0 c1, P0 c3] w fun e w' => e = .returned (.tuple #[]) ∧ Pw w' b c1 c3 (d ++ be m n) ∧ Kept [b, c3] w w' := by
  obtain ⟨hn1, hn2⟩ := hn
  have H0 := hide h
  clear h
  go_enter Tryd.func87, Tryd.ntmps87
  go_wp2_with fail
  go_loopw [0] (fun i wr => ∃ k : Nat, k ≤ m ∧ i = .int .i64 (k - 1) ∧ (∃ d', Hid (Pw wr b c1 c3 d') ∧ d'.length + k ≤ 64 ∧ Hid (d' ++ be k n = d ++ be m n)) ∧ Hid (Kept [b, c3] w wr)) (fun i _ => (intOf i + 1).toNat)
  case atStart => exact ⟨m, by omega, by simp, ⟨d, H0, hd, rfl⟩, Kept.refl _ _⟩
  case round =>
    obtain ⟨k, hkm, rfl, ⟨d', R, hdk, hdd⟩, RK⟩ := hrel
    by_cases hlt : 1 ≤ k
    · obtain ⟨j, rfl⟩ : ∃ j, k = j + 1 := ⟨k - 1, by omega⟩
      have q1 := fits_cell (unhide R).ptr 0 _ rfl
      have q3 := fits_cell (unhide R).at' 0 _ rfl
      have qs : wr.cell? ⟨b, d'.length, none⟩ = some (.int .u8 ((secOf d')[d'.length]'(by rw [secOf_len (by omega)]; omega))) := fits_cell (unhide R).sec d'.length _ (by simp [u8s])
      have z3 := (unhide R).at'.frozen 0
      have zs := (unhide R).sec.frozen d'.length
      have e1 : ((j + 1 : Nat) : Int) - 1 = (j : Int) := by omega
      rw [e1]
      go_wp2_with fail
      go_region
      have hp : n / 2 ^ (8 * j) = n / 256 ^ j := by rw [Int.pow_mul]; rfl
      rw [hp]
      have R2 := (unhide R).put (n / 256 ^ j % 256) (by omega)
      have K2 : Kept [b, c3] w (wr.setCell ⟨b, d'.length, none⟩ (.int .u8 (n / 256 ^ j % 256))).drew := ((unhide RK).setCell (by simp) _).drew
      generalize (wr.setCell ⟨b, d'.length, none⟩ (.int .u8 (n / 256 ^ j % 256))).drew = W2 at R2 K2 ⊢
      have q4 := fits_cell R2.2 0 _ rfl
      have z4 := R2.2.frozen 0
      have RR := hide R2
      have KK := hide K2
      clear R2 K2 q1 q3 qs z3 zs
      go_wp2_with fail
      go_roundw
      case rel =>
        refine ⟨j, by omega, by simp, ⟨d' ++ [n / 256 ^ j % 256], ?_, by simp; omega, ?_⟩, ?_⟩
        · exact (unhide RR).1.step (unhide RR).2
        · have := unhide hdd
          simpa [be, Hid] using this
        · exact (unhide KK).setCell (by simp) _
      case measure => simp [intOf]
    · obtain rfl : k = 0 := by omega
      go_wp2_with fail
      refine bodyPost_end (results_none rfl _ _ _) rfl ⟨rfl, ?_, unhide RK⟩
      have := unhide hdd
      rw [be, List.append_nil] at this
      rw [← this]
      exact unhide R

theorem Pw.kept {w w' : World} {X : List Nat} {b c1 c3 : Nat} {d : List Int} (h : Pw w b c1 c3 d) (hk : Kept X w w') (h1 : b ∉ X) (h2 : c1 ∉ X) (h3 : c3 ∉ X) : Pw w' b c1 c3 d :=
  ⟨h.sec.kept hk h1, h.ptr.kept hk h2, h.at'.kept hk h3, h.n1, h.n2, h.n3⟩

theorem putter35 (b : Nat) (w : World) (h : Blk w b 80 (u8s (secOf []))) : Calls Tryd.prog 70 #[P0 b] w fun e w' => ∃ c1 c3, e = .returned (.func (.func 87) #[] #[P0 c1, P0 c3]) ∧ Pw w' b c1 c3 [] ∧ Kept [] w w' ∧ w.heap.size ≤ c1 ∧ w.heap.size ≤ c3 := by
  have hmf : ∀ (fn : Fn) (first cap : Array Value) (w : World), (Instr.makeFunc fn first cap).run Tryd.prog w = .ok (.func fn first cap) w := fun _ _ _ _ => rfl
  have hl := h.lt
  have H := hide h
  clear h
  go_enter Tryd.func70, Tryd.ntmps70
  go_wp2_with fail
  go_ret
  refine ⟨w.heap.size, w.heap.size + 1, rfl, ⟨?_, ?_, ?_, ?_, ?_, ?_⟩, ?_, Nat.le_refl _, by omega⟩
  · exact ((unhide H).alloc _).alloc _
  · exact (Blk.new w 122 [P0 b]).alloc _
  · exact Blk.new' (vs := [Value.int .i64 0]) (by simp)
  · omega
  · omega
  · omega
  · exact ((Kept.refl _ _).alloc _).alloc _

/-- The number that these bytes are. -/
def numK (s : List Int) (o : Nat) : Nat → Nat
  | 0 => 0
  | k + 1 => numK s o k * 256 + (s.getD (o + k) 0).toNat
def numL (s : List Int) (o m : Nat) : Int := numK s o m
theorem numK_lt {s : List Int} (hs : Byts 64 s) (o : Nat) : ∀ k, o + k ≤ 64 → numK s o k < 256 ^ k
  | 0, _ => by simp [numK]
  | k + 1, h => by
    have := numK_lt hs o k (by omega)
    have h2 := hs.byte (s[o + k]'(by rw [hs.len]; omega)) (List.getElem_mem _)
    have e : s.getD (o + k) 0 = s[o + k]'(by rw [hs.len]; omega) := by simp [List.getD, hs.len, show o + k < 64 by omega]
    rw [numK, e, Nat.pow_succ]
    omega
theorem wraps_i64 (n : Int) (h₀ : 0 ≤ n) (h₁ : n < 2 ^ 63) : IntKind.i64.wrap n = n := by rw [IntKind.wrap_i64]; omega
theorem or_num (a c : Nat) (ha : a < 16777216) (hc : c < 256) : bits .or .i64 ((a : Int) * 256) (c : Int) = (a : Int) * 256 + c :=
  bits_join .i64 63 (by decide) wraps_i64 8 _ _ (by omega) (by omega) (by omega) (by omega) (by omega) (by omega)

/-- What a taker knows: the sector, and how far it is. -/
structure Tw (w : World) (b c : Nat) (s : List Int) (o : Nat) : Prop where
  sec : Blk w b 80 (u8s s)
  at' : Blk w c 3 [.int .i64 o]
  ne : b ≠ c
theorem Tw.kept {w w' : World} {X : List Nat} {b c : Nat} {s : List Int} {o : Nat} (h : Tw w b c s o) (hk : Kept X w w') (h1 : b ∉ X) (h2 : c ∉ X) : Tw w' b c s o := ⟨h.sec.kept hk h1, h.at'.kept hk h2, h.ne⟩
theorem Tw.step {w : World} {b c : Nat} {s : List Int} {o : Nat} {y : Int} (h : Tw w b c s o) (hy : y = o + 1 := by omega) : Tw (w.setCell ⟨c, 0, none⟩ (.int .i64 y)) b c s (o + 1) := by
  refine ⟨h.sec.set_other h.ne _, ?_, h.ne⟩
  have := h.at'.set (i := 0) (.int .i64 y)
  subst hy
  simpa using this

set_option maxHeartbeats 1000000 in
theorem take53 (m : Nat) (hm : m ≤ 4) (b c : Nat) (s : List Int) (hs : Byts 64 s) (o : Nat) (ho : o + m ≤ 64) (w : World) (h : Tw w b c s o) : Calls Tryd.prog 94 #[.int .i64 m, P0 b, P0 c] w fun e w' => e = .returned (.int .i64 (numL s o m)) ∧ Tw w' b c s (o + m) ∧ Kept [c] w w' := by
  have H0 := hide h
  clear h
  go_enter Tryd.func94, Tryd.ntmps94
  go_wp2_with fail
  go_loopw [7, 5] (fun i n wr => ∃ k : Nat, k ≤ m ∧ i = .int .i64 k ∧ n = .int .i64 (numK s o k) ∧ Hid (Tw wr b c s (o + k)) ∧ Hid (Kept [c] w wr)) (fun i _ _ => m - (intOf i).toNat)
  case atStart => exact ⟨0, by omega, rfl, rfl, H0, Kept.refl _ _⟩
  case round =>
    obtain ⟨k, hkm, rfl, rfl, R, RK⟩ := hrel
    by_cases hlt : k < m
    · have hl : o + k < s.length := by rw [hs.len]; omega
      have hx := hs.byte s[o + k] (List.getElem_mem _)
      obtain ⟨x, hc⟩ := Int.eq_ofNat_of_zero_le hx.1
      have q : wr.cell? ⟨b, o + k, none⟩ = some (.int .u8 x) := fits_cell (unhide R).sec (o + k) _ (by simp [u8s, hl]; exact hc)
      have q2 := fits_cell (unhide R).at' 0 _ rfl
      have z2 := (unhide R).at'.frozen 0
      have hlk := numK_lt hs o k (by omega)
      have hp3 : 256 ^ k ≤ 16777216 := by
        have h8 : (256 : Nat) ^ 3 = 16777216 := by decide
        rw [← h8]; exact Nat.pow_le_pow_right (by decide) (by omega)
      have ho2 := or_num (numK s o k) x (by omega) (by omega)
      have hn : numK s o (k + 1) = numK s o k * 256 + x := by
        rw [numK]; congr 1; simp [List.getD, hl]; omega
      have h64 : ((o + k : Nat) : Int) < 64 := by omega
      obtain ⟨ok, hok⟩ : ∃ x, x = o + k := ⟨_, rfl⟩
      rw [← hok] at q q2 h64 R
      have HK := hide hok
      have hx2 : (x : Int) < 256 := by omega
      clear hok hl hx hc
      go_wp2_with fail
      go_roundw
      case rel =>
        refine ⟨k + 1, by omega, by simp, by rw [hn]; simp, ?_, ?_⟩
        · have hok := unhide HK
          rw [show o + (k + 1) = ok + 1 by omega]
          exact (unhide R).step rfl
        · exact (unhide RK).setCell (by simp) _
      case measure => simp [intOf]; omega
    · obtain rfl : k = m := by omega
      go_wp2_with fail
      go_ret
      exact ⟨rfl, unhide R, unhide RK⟩

theorem taker48 (s : List Int) (w : World) : Calls Tryd.prog 90 #[aggV (u8s s)] w fun e w' => ∃ b c, e = .returned (.func (.func 94) #[] #[P0 b, P0 c]) ∧ Tw w' b c s 0 ∧ Kept [] w w' ∧ w.heap.size ≤ b ∧ w.heap.size ≤ c := by
  have hmf : ∀ (fn : Fn) (first cap : Array Value) (w : World), (Instr.makeFunc fn first cap).run Tryd.prog w = .ok (.func fn first cap) w := fun _ _ _ _ => rfl
  go_enter Tryd.func90, Tryd.ntmps90
  go_wp2_with (
    first
    | (refine wpBoxV rfl (.tmp 0) rfl (u8s s) rfl ?_
       intro W1 b1 e1 B1 K1
       have BB := hide B1
       have KK := hide K1
       have EE := hide e1
       clear e1 B1 K1))
  go_ret
  have hl := (unhide BB).lt
  have hk := (unhide KK).size
  have he := unhide EE
  refine ⟨b1, W1.heap.size, rfl, ⟨(unhide BB).alloc _, Blk.new W1 3 [.int .i64 0], by omega⟩, (unhide KK).alloc _, by omega, hk⟩

end Go.Proofs.YtmeajhdhiebkdaaDoor.Rc
