import Derived.Test.YtbigongmlpoahaaUFe
namespace Go.Proofs.Ytbigongmlpoahaa
set_option maxHeartbeats 2000000
set_option maxRecDepth 100000
set_option linter.unusedSimpArgs false
open Go.RowKit
structure Lo.Ok (s:Lo):Prop where
 ex: -1≤s.ex∧s.ex<8
 ow: -1≤s.ow∧s.ow<8
 su: -1≤s.su∧s.su<8
 hn:s.hn<8
theorem lowFrom_range (f:Nat→Bool):∀k j,j+k≤8→ -1≤lowFrom f j k∧lowFrom f j k<8:=by
 intro k
 induction k with
 | zero=>intro j _;simp [lowFrom]
 | succ k ih=>
   intro j hj
   rw [lowFrom]
   split
   · omega
   · exact ih (j+1) (by omega)
theorem low_range (f:Nat→Bool): -1≤low f∧low f<8:=lowFrom_range f 8 0 (by omega)
theorem sup_range {s:Lo} (h:s.Ok) (n:Nat): -1≤s.sup n∧s.sup n<8:=by
 unfold Lo.sup
 have:=h.ow
 have:=low_range s.ho
 split
 · exact h.ow
 · split <;> omega
def Lo.find (s:Lo):Lo:= { s with su:=s.sup s.hn }
def Lo.wait (s:Lo):Lo:= { s with wa:=s.oth }
def Lo.handOn (s:Lo):Lo×List Od:=(s.find,s.find.send 2 1)
def Lo.handOver (s:Lo):Lo×List Od:=(s.find.wait,if emp s.find.wait.wa then s.find.wait.send 3 2 else s.find.wait.drops)
theorem find_ok {s:Lo} (h:s.Ok):s.find.Ok:=⟨h.ex,h.ow,sup_range h _,h.hn⟩
theorem wait_ok {s:Lo} (h:s.Ok):s.wait.Ok:=⟨h.ex,h.ow,h.su,h.hn⟩
theorem over_ok {s:Lo} (h:s.Ok):s.over.Ok:=⟨h.ex,h.ow,h.su,by simp [Lo.over]⟩
@[reducible] def LR (b:Nat) (ln:Value) (w:World) (r:Lo×List Od) (e:Ending) (w':World):Prop:=∃v,e= .returned v∧Ou w w' v r.2∧Blk w' b 108 (r.1.C ln)∧Kept [b] w w'
theorem handOn68 (s:Lo) (ln:Value) (b:Nat) (w:World) (h:Blk w b 108 (s.C ln)) (hs:s.Ok):Calls Try.prog 95 #[P0 b] w (LR b ln w s.handOn):=by
 have M:=hide (Mm.one h)
 have c28:=fits_cell h 28 _ rfl
 obtain⟨hx,hw,hu,hh⟩:=hs
 clear h hx hw hu
 go_enter Try.func95,Try.ntmps95
 go_wp2_with (first |(go_at_call 98;refine(sup74 s ln b s.hn _ ((unhide M).at 0 _ rfl) hh).mono ?_;rintro e W1 ⟨rfl,K1⟩;replace M:=hide ((unhide M).step K1);clear K1;clear c28;refine Stp.go ?_))
 constructor
 go_wp2_with (first |(refine wpSt1 size3 rfl (.tmp 12) (.tmp 10) rfl rfl b (31) 0 (.int .i64 (s.sup s.hn)) (⟨rfl,rfl⟩) rfl rfl (unhide M) rfl (show 31+1≤_ from Nat.le_of_ble_eq_true rfl) (rfl) ?_;intro W2 N2;replace M:Hid (Mm [b] w W2 [(b,108,s.find.C ln)]):=hide N2;clear N2;refine Stp.go ?_))
 constructor
 go_wp2_with (first |(go_at_call 101;refine(send77 s.find ln b 2 1 _ ((unhide M).at 0 _ rfl)).mono ?_;rintro e W3 ⟨xv,rfl,N3,K3⟩;have HO:Hid _:=hide (N3.elder (w:=w) (unhide M).kept.size);replace M:=hide ((unhide M).step K3);clear N3 K3;refine Stp.go ?_))
 constructor
 go_wp2_with fail
 go_ret
 exact⟨xv,rfl,unhide HO,(unhide M).at 0 _ rfl,(unhide M).kept⟩
theorem handOver_a (s:Lo) (ln:Value) (b:Nat) (w:World) (h:Blk w b 108 (s.C ln)) (hs:s.Ok) (he:emp s.find.wait.wa=true):Calls Try.prog 93 #[P0 b] w (LR b ln w (s.find.wait,s.find.wait.send 3 2)):=by
 have hsu:=(find_ok hs).su
 have HE:=hide he
 have M:=hide (Mm.one h)
 have c28:=fits_cell h 28 _ rfl
 obtain⟨hx,hw,hu,hh⟩:=hs
 clear h hx hw hu he
 go_enter Try.func93,Try.ntmps93
 go_wp2_with (first |(go_at_call 98;refine(sup74 s ln b s.hn _ ((unhide M).at 0 _ rfl) hh).mono ?_;rintro e W1 ⟨rfl,K1⟩;replace M:=hide ((unhide M).step K1);clear K1;clear c28;refine Stp.go ?_))
 constructor
 go_wp2_with (first |(refine wpSt1 size3 rfl (.tmp 12) (.tmp 10) rfl rfl b (31) 0 (.int .i64 (s.sup s.hn)) (⟨rfl,rfl⟩) rfl rfl (unhide M) rfl (show 31+1≤_ from Nat.le_of_ble_eq_true rfl) (rfl) ?_;intro W2 N2;replace M:Hid (Mm [b] w W2 [(b,108,s.find.C ln)]):=hide N2;clear N2;refine Stp.go ?_))
 constructor
 go_wp2_with (first |(go_at_call 99;refine(oth75 s.find ln b _ ((unhide M).at 0 _ rfl) hh hsu).mono ?_;rintro e W3 ⟨rfl,K3⟩;replace M:=hide ((unhide M).step K3);clear K3;refine Stp.go ?_))
 constructor
 go_wp2_with (first |(refine wpStN row73 rfl (.tmp 17) (.tmp 15) rfl rfl b (32) 0 (b8 s.find.oth) rfl rfl rfl (b8_one _) (unhide M) rfl (Nat.le_of_ble_eq_true rfl) (fun W h=>h.waP s.find.oth) ?_;intro W4 N4;replace M:Hid (Mm [b] w W4 [(b,108,s.find.wait.C ln)]):=hide N4;clear N4;refine Stp.go ?_))
 constructor
 go_wp2_with (first |(refine wpLoadA row73 rfl (.tmp 20) rfl b (32) rfl (b8 s.find.wait.wa) rfl (((unhide M).at 0 _ rfl).waA) ?_;refine Stp.go ?_))
 constructor
 go_wp2_with (first |(refine wpBuildZ (T:=106) (b8 no8) build73 rfl rfl ?_;refine Stp.go ?_))
 constructor
 go_wp2_with (first |(refine wpNeqA 106 106 guard73 (.tmp 21) (.tmp 22) rfl rfl (b8 s.find.wait.wa) (b8 no8) rfl rfl true ((eqA73 _ _ _).trans (by rw [← unhide HE];rfl)) ?_;refine Stp.go ?_))
 constructor
 go_wp2_with (first |(go_at_call 101;refine(send77 s.find.wait ln b 3 2 _ ((unhide M).at 0 _ rfl)).mono ?_;rintro e W5 ⟨xv,rfl,N5,K5⟩;have HO:Hid _:=hide (N5.elder (w:=w) (unhide M).kept.size);replace M:=hide ((unhide M).step K5);clear N5 K5;refine Stp.go ?_))
 constructor
 go_wp2_with fail
 go_ret
 exact⟨xv,rfl,unhide HO,(unhide M).at 0 _ rfl,(unhide M).kept⟩
theorem handOver_b (s:Lo) (ln:Value) (b:Nat) (w:World) (h:Blk w b 108 (s.C ln)) (hs:s.Ok) (he:emp s.find.wait.wa=false):Calls Try.prog 93 #[P0 b] w (LR b ln w (s.find.wait,s.find.wait.drops)):=by
 have hsu:=(find_ok hs).su
 have HE:=hide he
 have M:=hide (Mm.one h)
 have c28:=fits_cell h 28 _ rfl
 obtain⟨hx,hw,hu,hh⟩:=hs
 clear h hx hw hu he
 go_enter Try.func93,Try.ntmps93
 go_wp2_with (first |(go_at_call 98;refine(sup74 s ln b s.hn _ ((unhide M).at 0 _ rfl) hh).mono ?_;rintro e W1 ⟨rfl,K1⟩;replace M:=hide ((unhide M).step K1);clear K1;clear c28;refine Stp.go ?_))
 constructor
 go_wp2_with (first |(refine wpSt1 size3 rfl (.tmp 12) (.tmp 10) rfl rfl b (31) 0 (.int .i64 (s.sup s.hn)) (⟨rfl,rfl⟩) rfl rfl (unhide M) rfl (show 31+1≤_ from Nat.le_of_ble_eq_true rfl) (rfl) ?_;intro W2 N2;replace M:Hid (Mm [b] w W2 [(b,108,s.find.C ln)]):=hide N2;clear N2;refine Stp.go ?_))
 constructor
 go_wp2_with (first |(go_at_call 99;refine(oth75 s.find ln b _ ((unhide M).at 0 _ rfl) hh hsu).mono ?_;rintro e W3 ⟨rfl,K3⟩;replace M:=hide ((unhide M).step K3);clear K3;refine Stp.go ?_))
 constructor
 go_wp2_with (first |(refine wpStN row73 rfl (.tmp 17) (.tmp 15) rfl rfl b (32) 0 (b8 s.find.oth) rfl rfl rfl (b8_one _) (unhide M) rfl (Nat.le_of_ble_eq_true rfl) (fun W h=>h.waP s.find.oth) ?_;intro W4 N4;replace M:Hid (Mm [b] w W4 [(b,108,s.find.wait.C ln)]):=hide N4;clear N4;refine Stp.go ?_))
 constructor
 go_wp2_with (first |(refine wpLoadA row73 rfl (.tmp 20) rfl b (32) rfl (b8 s.find.wait.wa) rfl (((unhide M).at 0 _ rfl).waA) ?_;refine Stp.go ?_))
 constructor
 go_wp2_with (first |(refine wpBuildZ (T:=106) (b8 no8) build73 rfl rfl ?_;refine Stp.go ?_))
 constructor
 go_wp2_with (first |(refine wpNeqA 106 106 guard73 (.tmp 21) (.tmp 22) rfl rfl (b8 s.find.wait.wa) (b8 no8) rfl rfl false ((eqA73 _ _ _).trans (by rw [← unhide HE];rfl)) ?_;refine Stp.go ?_))
 constructor
 go_wp2_with (first |(go_at_call 100;refine(drops76 s.find.wait ln b _ ((unhide M).at 0 _ rfl)).mono ?_;rintro e W5 ⟨xv,rfl,N5,K5⟩;have HO:Hid _:=hide (N5.elder (w:=w) (unhide M).kept.size);replace M:=hide ((unhide M).step K5);clear N5 K5;refine Stp.go ?_))
 constructor
 go_wp2_with fail
 go_ret
 exact⟨xv,rfl,unhide HO,(unhide M).at 0 _ rfl,(unhide M).kept⟩
theorem handOver67 (s:Lo) (ln:Value) (b:Nat) (w:World) (h:Blk w b 108 (s.C ln)) (hs:s.Ok):Calls Try.prog 93 #[P0 b] w (LR b ln w s.handOver):=by
 unfold Lo.handOver
 cases he:emp s.find.wait.wa with
 | true=>exact handOver_a s ln b w h hs he
 | false=>exact handOver_b s ln b w h hs he
end Go.Proofs.Ytbigongmlpoahaa
