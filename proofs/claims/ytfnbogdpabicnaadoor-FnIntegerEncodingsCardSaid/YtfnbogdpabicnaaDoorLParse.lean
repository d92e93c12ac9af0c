/-
  The law on ParseInt, walked, where the library's listed variables hold what the program's text lays there.
-/
import Derived.Test.YtfnbogdpabicnaaDoorLParseAid
namespace Go.Proofs.YtfnbogdpabicnaaDoor
open Go.RowKit Go.Deep Go.Proofs.YtfnbogdpabicnaaDoor.Num

set_option maxHeartbeats 400000 in
/-- The law. -/
theorem law_ParseInt (s : ByteArray) (w : World) (hs : s.size ≤ maxLen) (hsent : Sent w) (hp : Pow w) :
    Calls Tryd.prog 5 #[.string s] w fun e w' => e = .returned (.bool true) ∧ Below w.heap.size w w' := by
  by_cases hb : 1048576 < s.size
  · go_enter Tryd.func5, Tryd.ntmps5
    go_wp2
    go_ret
    exact ⟨rfl, Below.refl _ _⟩
  · have HC := Lib.hid (sparse s w hs)
    have HI : ∀ w1, Below w.heap.size w w1 → Hid (Calls Tryd.prog 18 #[.string s] w1 (ParsePost s.data.toList w1)) := fun w1 hb1 => Lib.hid (iparse s (by omega) w1 (hsent.keep hb1) (hp.keep hb1))
    have HI := Lib.hid HI
    clear hsent hp
    go_enter Tryd.func5, Tryd.ntmps5
    go_wp2_with fail
    refine HC.out.mono ?_
    rintro e w1 ⟨⟨n, hn, rfl⟩ | ⟨hn, rfl⟩, hb1⟩
    · have HN := Lib.hid hn
      clear hn
      go_wp2_with fail
      refine (HI.out w1 hb1).out.mono ?_
      rintro e w2 ⟨⟨m, hm, rfl⟩ | ⟨hm, rfl⟩, hb2⟩
      · obtain rfl := HN.out.uniq hm
        clear hm
        go_wp2
        go_ret
        exact ⟨rfl, hb1.trans (hb2.mono hb1.size)⟩
      · exact absurd HN.out (hm n)
    · have HN := Lib.hid hn
      clear hn
      go_wp2_with fail
      refine (HI.out w1 hb1).out.mono ?_
      rintro e w2 ⟨⟨m, hm, rfl⟩ | ⟨hm, rfl⟩, hb2⟩
      · exact absurd hm (HN.out m)
      · clear hm
        go_wp2
        go_ret
        exact ⟨rfl, hb1.trans (hb2.mono hb1.size)⟩
end Go.Proofs.YtfnbogdpabicnaaDoor
