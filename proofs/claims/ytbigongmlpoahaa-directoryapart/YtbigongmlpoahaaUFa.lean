import Derived.Test.YtbigongmlpoahaaUKd
namespace Go.Proofs.Ytbigongmlpoahaa
set_option maxRecDepth 100000
set_option linter.unusedSimpArgs false
open Go.RowKit
def Lo.busy (s:Lo):Bool:= !decide (s.wi=wi0)
def emp (f:Nat→Bool):Bool:=like f no8
def Lo.sends (s:Lo):Bool:=s.busy&& !decide (s.hk=3)&&emp s.wa
def isN (n:Int):Bool:=decide (0≤n∧n<8)
def Lo.over (s:Lo):Lo:= { s with hn:=0,hk:=0 }
theorem none40 (s:Lo) (ln:Value) (b:Nat) (w:World) (h:Blk w b 108 (s.C ln)):Calls Try.prog 68 #[P0 b] w fun e w'=>e= .returned (.bool false)∧w'=w:=by
 have c0:=fits_cell h 0 _ rfl
 clear h
 go_enter Try.func68,Try.ntmps68
 go_wp2_with fail
 go_ret
 exact⟨rfl,rfl⟩
theorem isNode46 (n:Int) (w:World):Calls Try.prog 76 #[.int .i64 n] w fun e w'=>e= .returned (.bool (isN n))∧w'=w:=by
 by_cases h1:0≤n
 · go_enter Try.func76,Try.ntmps76
   go_wp2_with fail
   go_ret
   exact⟨ret_bool (by simp [isN];omega),rfl⟩
 · go_enter Try.func76,Try.ntmps76
   go_wp2_with fail
   go_ret
   exact⟨ret_bool (by simp [isN];omega),rfl⟩
theorem t46 {n:Nat} (h:n<8):∀W,Hid (Calls Try.prog 76 #[.int .i64 (n:Int)] W fun e w'=>e= .returned (.bool true)∧w'=W):=fun W=>hide (by have h9:=isNode46 (n:Int) W;rw [show isN (n:Int)=true by simp [isN];omega] at h9;exact h9)
theorem in47 (n:Int) (w:World):Calls Try.prog 26 #[.int .i64 n] w fun e w'=>e= .returned (.bool (isN n))∧w'=w:=by
 by_cases h1:0≤n
 · go_enter Try.func26,Try.ntmps26
   go_wp2_with fail
   go_ret
   exact⟨ret_bool (by simp [isN];omega),rfl⟩
 · go_enter Try.func26,Try.ntmps26
   go_wp2_with fail
   go_ret
   exact⟨ret_bool (by simp [isN];omega),rfl⟩
theorem t47 {n:Nat} (h:n<8):∀W,Hid (Calls Try.prog 26 #[.int .i64 (n:Int)] W fun e w'=>e= .returned (.bool true)∧w'=W):=fun W=>hide (by have h9:=in47 (n:Int) W;rw [show isN (n:Int)=true by simp [isN];omega] at h9;exact h9)
theorem busy44 (s:Lo) (ln:Value) (b:Nat) (w:World) (h:Blk w b 108 (s.C ln)):Calls Try.prog 72 #[P0 b] w fun e w'=>e= .returned (.bool s.busy)∧w'=w:=by
 have H:=hide h
 clear h
 go_enter Try.func72,Try.ntmps72
 go_wp2_with (first |(refine wpLoadA row41 rfl (.tmp 5) rfl b 28 rfl s.wi.C rfl (unhide H).hand ?_;refine Stp.go ?_))
 constructor
 go_wp2_with (first |(refine wpBuildZ (T:=38) (wi0.C) build41 rfl rfl ?_;refine Stp.go ?_))
 constructor
 go_wp2_with (first |(refine wpNeqA 38 38 guard41 (.tmp 6) (.tmp 7) rfl rfl s.wi.C wi0.C rfl rfl (decide (s.wi=wi0)) (eqW41 _ _ _) ?_;refine Stp.go ?_))
 constructor
 go_wp2_with fail
 go_ret
 exact⟨rfl,rfl⟩
theorem flushes49 (s:Lo) (ln:Value) (b:Nat) (w:World) (h:Blk w b 108 (s.C ln)):Calls Try.prog 83 #[P0 b] w fun e w'=>e= .returned (.bool (decide (s.hk=3)))∧w'=w:=by
 have c0:=fits_cell h 29 _ rfl
 clear h
 go_enter Try.func83,Try.ntmps83
 go_wp2_with fail
 go_ret
 exact⟨rfl,rfl⟩
theorem over69 (s:Lo) (ln:Value) (b:Nat) (w:World) (h:Blk w b 108 (s.C ln)):Calls Try.prog 94 #[P0 b] w fun e w'=>e= .returned (.tuple #[])∧Blk w' b 108 (s.over.C ln)∧Kept [b] w w':=by
 have M:=hide (Mm.one h)
 clear h
 go_enter Try.func94,Try.ntmps94
 go_wp2_with (first |(refine wpBuildZ (T:=38) (wi0.C) build41 rfl rfl ?_;refine Stp.go ?_))
 constructor
 go_wp2_with (first |(refine wpStN row41 rfl (.tmp 5) (.tmp 3) rfl rfl b 28 0 wi0.C rfl rfl rfl (Wi.one _) (unhide M) rfl (Nat.le_of_ble_eq_true rfl) (fun W h=>h.handP wi0) ?_;intro W1 N1;replace M:Hid (Mm [b] w W1 [(b,108,s.over.C ln)]):=hide N1;clear N1;refine Stp.go ?_))
 constructor
 go_wp2_with fail
 go_end0
 exact⟨rfl,(unhide M).at 0 _ rfl,(unhide M).kept⟩
theorem new10 (w:World):Calls Try.prog 61 #[] w fun e w'=>∃b,e= .returned (P0 b)∧b=w.heap.size∧Blk w' b 108 (lo0.C (.slice none 0 0))∧Kept [] w w':=by
 go_enter Try.func61,Try.ntmps61
 go_wp2_with (first |(refine wpBuildP (by rfl) #[(0,.const (.bool true)),(1,.const (.int .i64 (-1))),(2,.const (.int .i64 (-1)))] (by rfl) #[(0,.bool true),(1,.int .i64 (-1)),(2,.int .i64 (-1))] (by kernel_rfl) (lo0.C (.slice none 0 0)) (build75 _) ?_;refine Stp.go ?_))
 constructor
 go_wp2_with (first |(refine wpBoxV rfl (.tmp 1) rfl (lo0.C (.slice none 0 0)) rfl ?_;intro W1 b1 e1 B1 K1;have EB:=hide e1;have BB:=hide B1;have KK:=hide K1;clear e1 B1 K1;refine Stp.go ?_))
 constructor
 go_wp2_with fail
 go_ret
 exact⟨b1,rfl,unhide EB,unhide BB,unhide KK⟩
theorem rnew11 (w:World):Calls Try.prog 25 #[] w fun e w'=>∃b,e= .returned (P0 b)∧b=w.heap.size∧Blk w' b 80 (rk0.C (.slice none 0 0))∧Kept [] w w':=by
 go_enter Try.func25,Try.ntmps25
 go_wp2_with (first |(refine wpBuildP (by rfl) #[(0,.const (.int .i64 (-1))),(1,.const (.int .i64 (-1))),(9,.const (.int .i64 (-1)))] (by rfl) #[(0,.int .i64 (-1)),(1,.int .i64 (-1)),(9,.int .i64 (-1))] (by kernel_rfl) (rk0.C (.slice none 0 0)) (build47 _) ?_;refine Stp.go ?_))
 constructor
 go_wp2_with (first |(refine wpBoxV rfl (.tmp 1) rfl (rk0.C (.slice none 0 0)) rfl ?_;intro W1 b1 e1 B1 K1;have EB:=hide e1;have BB:=hide B1;have KK:=hide K1;clear e1 B1 K1;refine Stp.go ?_))
 constructor
 go_wp2_with fail
 go_ret
 exact⟨b1,rfl,unhide EB,unhide BB,unhide KK⟩
theorem sends_a (s:Lo) (ln:Value) (b:Nat) (w:World) (h:Blk w b 108 (s.C ln)) (hb:s.busy=false):Calls Try.prog 79 #[P0 b] w fun e w'=>e= .returned (.bool (false))∧w'=w:=by
 have P44:=hide (busy44 s ln b w h)
 rw [hb] at P44
 have c0:=fits_cell h 29 _ rfl
 have H:=hide h
 clear h hb
 go_enter Try.func79,Try.ntmps79
 go_wp2_with (first |(go_at_call 72;refine(unhide P44).mono ?_;rintro e w2 ⟨rfl,q2⟩;replace q2:=q2.symm;subst q2;refine Stp.go ?_))
 constructor
 go_wp2_with fail
 go_ret
 exact⟨rfl,rfl⟩
theorem sends_b (s:Lo) (ln:Value) (b:Nat) (w:World) (h:Blk w b 108 (s.C ln)) (hb:s.busy=true) (hk:decide (s.hk=3)=true):Calls Try.prog 79 #[P0 b] w fun e w'=>e= .returned (.bool (false))∧w'=w:=by
 have P44:=hide (busy44 s ln b w h)
 rw [hb] at P44
 have c0:=fits_cell h 29 _ rfl
 have H:=hide h
 clear h hb
 have hk2:s.hk=3:=by simpa using hk
 rw [hk2] at c0
 clear hk hk2
 go_enter Try.func79,Try.ntmps79
 go_wp2_with (first |(go_at_call 72;refine(unhide P44).mono ?_;rintro e w2 ⟨rfl,q2⟩;replace q2:=q2.symm;subst q2;refine Stp.go ?_))
 constructor
 go_wp2_with fail
 go_ret
 exact⟨rfl,rfl⟩
theorem sends_c (s:Lo) (ln:Value) (b:Nat) (w:World) (h:Blk w b 108 (s.C ln)) (hb:s.busy=true) (hk:decide (s.hk=3)=false):Calls Try.prog 79 #[P0 b] w fun e w'=>e= .returned (.bool (emp s.wa))∧w'=w:=by
 have P44:=hide (busy44 s ln b w h)
 rw [hb] at P44
 have c0:=fits_cell h 29 _ rfl
 have H:=hide h
 clear h hb
 have hk2:(s.hk !=3)=true:=by simpa using hk
 have hk3:¬s.hk=3:=by simpa using hk
 go_enter Try.func79,Try.ntmps79
 go_wp2_with (first |(go_at_call 72;refine(unhide P44).mono ?_;rintro e w2 ⟨rfl,q2⟩;replace q2:=q2.symm;subst q2;refine Stp.go ?_))
 constructor
 go_wp2_with (first |(refine wpLoadG row73 (.tmp 16) rfl rfl b 32 rfl (b8 s.wa) rfl (unhide H).waA ?_;refine Stp.go ?_))
 constructor
 go_wp2_with (first |(refine wpBuildG #[] rfl rfl #[] (by kernel_rfl) (b8 no8) (build73 _) ?_;refine Stp.go ?_))
 constructor
 go_wp2_with (first |(refine wpEqlG 106 106 guard73 (.tmp 17) (.tmp 18) rfl rfl (b8 s.wa) (b8 no8) rfl rfl (emp s.wa) (eqA73 _ _ _) ?_;refine Stp.go ?_))
 constructor
 go_wp2_with fail
 go_ret
 exact⟨rfl,rfl⟩
theorem sends52 (s:Lo) (ln:Value) (b:Nat) (w:World) (h:Blk w b 108 (s.C ln)):Calls Try.prog 79 #[P0 b] w fun e w'=>e= .returned (.bool s.sends)∧w'=w:=by
 unfold Lo.sends
 cases hb:s.busy with
 | false=>simpa using sends_a s ln b w h hb
 | true=>
   cases hk:decide (s.hk=3) with
   | true=>simpa using sends_b s ln b w h hb hk
   | false=>simpa using sends_c s ln b w h hb hk
end Go.Proofs.Ytbigongmlpoahaa
