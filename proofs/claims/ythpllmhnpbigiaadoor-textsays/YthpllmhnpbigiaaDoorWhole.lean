/- A small whole number, written as it should be, is read. -/
import Derived.Test.YthpllmhnpbigiaaDoorPol3
import Derived.Test.YthpllmhnpbigiaaDoorShelf
set_option linter.all false
namespace Go.Proofs.YthpllmhnpbigiaaDoor
open Go.RowKit Go.Maps

theorem bytesWorld_below (w : World) (t : TypeId) (x : ByteArray) : ∀ W, W = Lib.bytesWorld w t x → Below w.heap.size w W := by
  intro W h
  subst h
  exact ⟨rfl, rfl, rfl, by rw [Lib.bytesWorld_size]; omega, fun j hj => Lib.bytesWorld_at_old w t x j hj⟩

set_option maxHeartbeats 1000000 in
theorem whole_small (s : ByteArray) (m : Nat) (hm : m < 100) (hs : s.size ≤ 9223372036854775806) (hp : Lib.parseIntB 64 s.data.toList = .ok (m : Int)) (hd : (Lib.decDigits m).toArray = s.data) (w : World) :
    Calls Tryd.prog 59 #[.string s] w fun e w' => e = .returned (.tuple #[.int .i64 m, .bool true]) ∧ Below w.heap.size w w' := by
  go_enter Tryd.func59, Tryd.ntmps59
  go_wp2_with (first
    | (go_at_call 77; go_must (refine (Tryd.strconv_ParseInt_10_at64_ok s hs _ hp _).mono ?_; rintro e w1 ⟨rfl, hw1⟩))
    | (go_at_call 78; go_must (refine (Tryd.strconv_FormatInt_10_small m hm _).mono ?_; rintro e w2 ⟨rfl, rfl⟩)))
  go_ret2
  refine ⟨rfl, ?_⟩
  rcases hw1 with rfl | ⟨t, h⟩
  · exact Below.refl _ _
  · exact bytesWorld_below _ _ _ _ h

end Go.Proofs.YthpllmhnpbigiaaDoor
