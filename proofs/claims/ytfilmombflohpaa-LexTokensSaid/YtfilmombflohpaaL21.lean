/- The reference's widths, keywords, names. -/
import Derived.Test.YtfilmombflohpaaL20
set_option linter.unusedSimpArgs false
set_option linter.unusedVariables false
namespace Go.Proofs.Ytfilmombflohpaa
open Go.RowKit Go.ChangeMaps Go.WideMaps
set_option maxRecDepth 100000

def rBitsL (l : List UInt8) : Bool := !decide (l.length < 3) && (l.take 2 == [98, 118]) && rNumL (l.drop 2) 2 && !(l.drop 2 == [48]) && (decide (l.length = 3) || (Op.bytesLess (l.drop 2) [54, 52] || l.drop 2 == [54, 52]))

set_option maxHeartbeats 1000000 in
theorem rBits_any (s : ByteArray) (w : World) (hs : s.size ≤ 65536) :
    Calls Try.prog 89 #[.string s] w fun e w' => e = .returned (.bool (rBitsL s.data.toList)) ∧ w = w' := by
  have HN : Hid (rBitsL s.data.toList = (!decide (s.size < 3) && (s.data.toList.take 2 == [98, 118]) && rNumL (s.data.toList.drop 2) 2 && !(s.data.toList.drop 2 == [48]) && (decide (s.size = 3) || (Op.bytesLess (s.data.toList.drop 2) [54, 52] || s.data.toList.drop 2 == [54, 52])))) := by
    show _ = _; unfold rBitsL; rw [← Lib.size_eq]
  by_cases h3 : s.size < 3
  · rw [decide_eq_true h3] at HN
    go_enter Try.func89, Try.ntmps89
    go_wp2
    go_ret
    exact ⟨ret_bool (by rw [HN.out]; simp), rfl⟩
  · rw [decide_eq_false h3] at HN
    obtain ⟨d, hd⟩ : ∃ d, s.extract 2 s.size = d := ⟨_, rfl⟩
    obtain ⟨q, hq⟩ : ∃ q, s.extract 0 2 = q := ⟨_, rfl⟩
    have hdl : s.data.toList.drop 2 = d.data.toList := by rw [← hd, Lib.extract_to_end]
    have hql : s.data.toList.take 2 = q.data.toList := by rw [← hq, Lib.extract_data]; simp
    rw [hdl, hql] at HN
    have hdz : d.size ≤ 65536 := by rw [← hd]; simp; omega
    have H2 := fun w => Lib.hid (rNumber_any d 2 w hdz (by omega))
    obtain ⟨b2, hb2⟩ : ∃ b, rNumL d.data.toList 2 = b := ⟨_, rfl⟩
    rw [hb2] at H2 HN
    rw [← Lib.toList_data d, ← Lib.toList_data q] at HN
    have hi3 : ((s.size : Int) == 3) = decide (s.size = 3) := by rw [Bool.eq_iff_iff]; simp; omega
    have hi4 : ((s.size : Int) = 3) = (s.size = 3) := by apply propext; omega
    clear hb2 hdl hql hdz
    go_enter Try.func89, Try.ntmps89
    go_wp2_with (go_at_call 101; refine (H2 _).out.mono ?_; rintro e w' ⟨rfl, rfl⟩)
    all_goals go_ret
    all_goals refine ⟨ret_bool ?_, rfl⟩
    all_goals rw [HN.out]
    all_goals clear H2 HN hd hq
    all_goals cases b2
    all_goals simp_all
    all_goals omega
end Go.Proofs.Ytfilmombflohpaa
