/- The reference's Tokens: the tokens of a text, or the first error. -/
import Derived.Maps.AppendAt
import Derived.Test.YtfilmombflohpaaM2
import Derived.Test.YtfilmombflohpaaR7
import Derived.Test.YtfilmombflohpaaL14
set_option linter.unusedSimpArgs false
set_option linter.unusedVariables false
namespace Go.Proofs.Ytfilmombflohpaa
open Go.RowKit Go.ChangeMaps Go.WideMaps Go.Shelf
set_option maxRecDepth 100000

/-- What the reference's Tokens answers. -/
def RefPost (s : ByteArray) (w : World) (e : Ending) (W' : World) : Prop :=
  Below w.heap.size w W' ∧
    (((∀ x ∈ spansT s s.data.toList 0, x.err = 0) ∧ ∃ v, e = .returned (.tuple #[v, .int .i64 0, .int .i64 0]) ∧ W'.ownsRow w.heap.size 51 3 v (spansT s s.data.toList 0).length (tokCells (spansT s s.data.toList 0))) ∨
     (∃ p x, spansT s s.data.toList 0 = p ++ [x] ∧ (∀ y ∈ p, y.err = 0) ∧ x.err ≠ 0 ∧ e = .returned (.tuple #[.slice none 0 0, .int .i64 x.at_, .int .i64 x.err])))

theorem ownsRow_below {w w' : World} {base size n : Nat} {e : TypeId} {v : Value} {xs : List Value} (h : w.ownsRow base e size v n xs) (hb : Below w.heap.size w w') : w'.ownsRow base e size v n xs :=
  h.kept (row := none) ⟨hb.os, hb.tape, hb.output, hb.size, fun k hk _ => hb.block k hk⟩ (by cases v.ownBlock <;> simp)

theorem tok_text {w w2 : World} {N n : Nat} {v x y z : Value} {xs : List Value} {o : Obj} (hr : w.ownsRow N 51 3 v n xs) (hg : ((w.alloc (.cells #[x, y, z] 51)).alloc o).grownBy w2 v.ownBlock) :
    w2.cell? ⟨w.heap.size, 1, none⟩ = some y := by
  refine hg.cell (a := ⟨w.heap.size, 1, none⟩) ?_ ?_
  · simp
  · intro e
    have := (hr.lt _ e.symm).2
    simp at this

theorem cell_three_new2 (w : World) (x y z : Value) (t : TypeId) (o : Obj) : ∀ j u, [x, y, z][j]? = some u → ((w.alloc o).alloc (.cells #[x, y, z] t)).cell? ((⟨w.heap.size + 1, 0, none⟩ : Addr).add j) = some u := by
  have h := cell_three_new (w.alloc o) x y z t
  rw [World.size_alloc] at h
  exact h

theorem info53 : (Try.prog.info? 51).map (fun i => (i.zero, i.size, i.bytes)) = some (some (.agg #[.int .i64 0, .string ⟨#[]⟩, .int .i64 0]), 3, 32) := by kernel_rfl

theorem grow_below {w w1 w2 : World} {N n size : Nat} {t : TypeId} {v : Value} {xs : List Value} {o o' : Obj} (hb : Below N w w1) (hN : N ≤ w1.heap.size) (hr : w1.ownsRow N t size v n xs) (hg : ((w1.alloc o).alloc o').grownBy w2 v.ownBlock) : Below N w w2 :=
  ((hb.alloc hN o).alloc (by rw [World.size_alloc]; omega) o').grown hg (by rw [World.size_alloc, World.size_alloc]; omega) (fun k e => (hr.lt k e).1)

theorem blank_lst : ∀ (l : List UInt8), blankL l ≤ l.length
  | [] => by simp [blankL]
  | [c] => by simp only [blankL]; split <;> simp
  | c :: d :: r => by
    have h1 := countL_le notNl r
    have h2 := Lib.index_room r [42, 47]
    have h3 := Lib.index_ge r [42, 47]
    simp only [List.length_cons, List.length_nil] at h2
    simp only [blankL, List.length_cons]
    split
    · omega
    · split
      · omega
      · split
        · omega
        · split
          · omega
          · split
            · omega
            · omega
theorem blank_le {s : ByteArray} {n : Nat} (h : blankL s.data.toList = n) : n ≤ s.size := by
  have := blank_lst s.data.toList
  rw [Lib.size_eq]
  omega

set_option maxHeartbeats 8000000 in
theorem rTokens_any (s : ByteArray) (w : World) (hs : s.size ≤ 20000) :
    Calls Try.prog 7 #[.string s] w (RefPost s w) := by
  obtain ⟨i0, hi, hz0, hz1, hz2⟩ := info_parts info53
  obtain ⟨N, hN⟩ : ∃ N, w.heap.size = N := ⟨_, rfl⟩
  obtain ⟨xs, hxs⟩ : ∃ xs, spansT s s.data.toList 0 = xs := ⟨_, rfl⟩
  unfold RefPost
  rw [hN, hxs]
  have HB0 := Lib.hid (Below.refl N w)
  have HXS := Lib.hid hxs
  have HN := Lib.hid hN
  clear hxs hN
  go_enter Try.func7, Try.ntmps7
  go_wp2
  go_loopw [5, 6] (fun v i wr => ∃ (pre : List Span) (k : Nat), k ≤ s.size ∧ pre.length ≤ k ∧ i = .int .i64 k ∧ Hid (xs = pre ++ spansT s (s.data.toList.drop k) k) ∧ Hid (∀ y ∈ pre, y.err = 0) ∧ Hid (wr.ownsRow N 51 3 v pre.length (tokCells pre)) ∧ Hid (Below N w wr ∧ N ≤ wr.heap.size)) (fun _ i _ => s.size - (intOf i).toNat)
  case atStart => exact ⟨[], 0, Nat.zero_le _, Nat.le_refl _, rfl, (show _ = _ by rw [List.nil_append, List.drop_zero]; exact HXS.out.symm), (show ∀ y ∈ [], _ by simp), World.ownsRow_nil _ _ _ _, ⟨HB0.out, by rw [← HN.out]; exact Nat.le_refl _⟩⟩
  case round =>
    obtain ⟨pre, k, hk, hpk, rfl, HP, HE, HR, HB⟩ := hrel
    clear HB0 HXS HN
    by_cases hlt : k < s.size
    · obtain ⟨d, hd⟩ : ∃ d, s.extract k s.size = d := ⟨_, rfl⟩
      have hdz : d.size = s.size - k := by rw [← hd]; simp
      have hdl : s.data.toList.drop k = d.data.toList := by rw [← hd, Lib.extract_to_end]
      have hd0 : 0 < d.size := by omega
      have hds : d.size ≤ 65536 := by omega
      have hdn : d.data.toList ≠ [] := by intro e; have := Lib.size_eq d; rw [e, List.length_nil] at this; omega
      have hdle : d.data.toList.length ≤ s.size := by rw [← Lib.size_eq]; omega
      have C1 := fun W => Lib.hid (rBlank_any d W hds)
      have hbg := blankL_ge d.data.toList
      have hP := HP.out
      rw [hdl] at hP
      obtain ⟨b, hbb⟩ : ∃ b, blankL d.data.toList = b := ⟨_, rfl⟩
      rw [hbb] at C1 hbg
      by_cases hb1 : b = -1
      · subst hb1
        rw [spans_stop hdle hdn hbb] at hP
        have HP2 := Lib.hid hP
        clear hP hbb hdl hdz hdn hdle
        go_wp2_with (go_at_call 27; refine (C1 _).out.mono ?_; rintro e W ⟨rfl, rfl⟩)
        all_goals go_ret3
        all_goals exact ⟨HB.out.1, .inr ⟨pre, ⟨0, [], (k : Int), 0, 22⟩, HP2.out, HE.out, (show (22 : Int) ≠ 0 by decide), rfl⟩⟩
      · by_cases hb0 : b = 0
        · subst hb0
          rw [spans_read hdle hdn hbb] at hP
          have C2 := fun W => Lib.hid (rRead_any d (k : Int) W hds hd0)
          have hbd := @readK_bd d.data.toList
          obtain ⟨⟨q, m, e⟩, hq⟩ : ∃ q, readK d.data.toList = q := ⟨_, rfl⟩
          rw [hq] at C2 hP hbd
          dsimp only at hP hbd
          by_cases he : e = 0
          · subst he
            have hbd := hbd rfl
            rw [← Lib.size_eq] at hbd
            obtain ⟨m, rfl⟩ := Int.eq_ofNat_of_zero_le (show 0 ≤ m by omega)
            unfold tokR at C2
            simp only [if_true, Int.toNat_natCast] at C2
            rw [if_neg (by simp), Int.toNat_natCast] at hP
            have hm0 : 0 < m := by omega
            have hmd : m ≤ d.size := by omega
            obtain ⟨t, ht⟩ : ∃ t, d.data.toList.take m = t := ⟨_, rfl⟩
            have htl : t.length = m := by rw [← ht, List.length_take, ← Lib.size_eq]; omega
            rw [ht] at C2 hP
            rw [← hdl, List.drop_drop] at hP
            have hyz : (mk t).size = m := by rw [size_of_list, htl]
            obtain ⟨y, hy⟩ : ∃ y, mk t = y := ⟨_, rfl⟩
            rw [hy] at C2 hyz
            have hyd : y.size ≤ d.size := by omega
            have HP2 := Lib.hid hP
            have HY := Lib.hid hy
            have HYZ := Lib.hid hyz
            have HDZ := Lib.hid hdz
            clear hP hbb hdl hdz hdn hdle hbd hbg ht hy htl hyz
            go_wp2_with (first | (go_at_call 27; refine (C1 _).out.mono ?_; rintro e W ⟨rfl, rfl⟩) | (go_at_call 28; refine (C2 _).out.mono ?_; rintro e w1 ⟨rfl, hb1⟩; have HR1 := Lib.hid (ownsRow_below HR.out hb1); have HB1 := Lib.hid (show Below N w w1 ∧ N ≤ w1.heap.size from ⟨HB.out.1.trans (hb1.mono HB.out.2), Nat.le_trans HB.out.2 hb1.size⟩)) | (at_builtin; refine wpList_append_own _ rfl _ _ 23 rfl N 51 i0 (.agg #[.int .i64 0, .string ⟨#[]⟩, .int .i64 0]) 3 32 Try.underlying23 hi hz0 hz1 hz2 rfl (by decide) _ _ _ rfl ((HR1.out.alloc _).alloc _) ⟨w1.heap.size + 1, 0, none⟩ 1 1 [.int .i64 q, .string y, .int .i64 (k : Int)] rfl rfl (cell_three_new2 _ _ _ _ _ _) (by simp [Value.oneCell']) (by simp [maxLen]; omega) (by omega) (by have := HB1.out.2; simp; omega) ?_; intro v' w2 hown' hgrow _; have hct := tok_text HR1.out hgrow))
            have HG := Lib.hid (show Below N w w2 ∧ N ≤ w2.heap.size from ⟨grow_below HB1.out.1 HB1.out.2 HR1.out hgrow, by have h1 := hgrow.size; have h2 := HB1.out.2; rw [World.size_alloc, World.size_alloc] at h1; omega⟩)
            go_roundw
            case rel =>
              refine ⟨pre ++ [⟨q, t, (k : Int), (k : Int) + (m : Int), 0⟩], k + m, by have := HDZ.out; omega, by simp; omega, by congr 1; have := HYZ.out; omega, ?_, ?_, ?_, HG⟩
              · show _ = _
                rw [List.append_assoc]; exact HP2.out
              · show ∀ z ∈ _, _
                intro z hz
                rcases List.mem_append.1 hz with hz | hz
                · exact HE.out z hz
                · simp only [List.mem_singleton] at hz; rw [hz]
              · show World.ownsRow _ _ _ _ _ _ _
                rw [tokCells_snoc]
                have hy := HY.out
                simpa [hy] using hown'
            case measure => simp [intOf]; have := HYZ.out; omega
          · unfold tokR at C2
            simp only [he, if_false] at C2
            rw [if_pos he] at hP
            have heb : (e != 0) = true := by simpa using he
            have HP2 := Lib.hid hP
            have HEE := Lib.hid he
            clear hP hbb hdl hdz hdn hdle hbd hbg hq he
            go_wp2_with (first | (go_at_call 27; refine (C1 _).out.mono ?_; rintro e W ⟨rfl, rfl⟩) | (go_at_call 28; refine (C2 _).out.mono ?_; rintro e w1 ⟨rfl, hb1⟩; have HB1 := Lib.hid (show Below N w w1 ∧ N ≤ w1.heap.size from ⟨HB.out.1.trans (hb1.mono HB.out.2), Nat.le_trans HB.out.2 hb1.size⟩)))
            all_goals go_ret3
            all_goals exact ⟨HB1.out.1.alloc HB1.out.2 _, .inr ⟨pre, ⟨0, [], (k : Int), 0, e⟩, HP2.out, HE.out, HEE.out, rfl⟩⟩
        · obtain ⟨n, rfl⟩ := Int.eq_ofNat_of_zero_le (show 0 ≤ b by omega)
          have hn0 : 0 < n := by omega
          rw [spans_blank hdle hdn hbb hn0, ← hdl, List.drop_drop] at hP
          have hnd : n ≤ d.size := blank_le hbb
          have HP2 := Lib.hid hP
          have HDZ := Lib.hid hdz
          clear hP hbb hdl hdz hdn hdle hbg hb0 hb1
          go_wp2_with (go_at_call 27; refine (C1 _).out.mono ?_; rintro e W ⟨rfl, rfl⟩)
          go_roundw
          case rel => exact ⟨pre, k + n, by have := HDZ.out; omega, by omega, by go_num, HP2, HE, HR, HB⟩
          case measure => simp [intOf]; have := HDZ.out; omega
    · obtain rfl : k = s.size := by omega
      have HX : Hid (xs = pre) := by
        have h := HP.out
        rw [List.drop_eq_nil_of_le (by rw [← Lib.size_eq]; exact Nat.le_refl _), spans_nil, List.append_nil] at h
        exact h
      obtain ⟨o, cap, rfl⟩ : ∃ o cap, u5 = .slice o pre.length cap := by
        rcases HR.out.2 with ⟨h, hz⟩ | ⟨g, cap, cur, h, _⟩
        · exact ⟨_, _, by rw [h, hz]⟩
        · exact ⟨_, _, h⟩
      go_wp2
      all_goals go_ret3
      all_goals exact ⟨HB.out.1, .inl ⟨by rw [HX.out]; exact HE.out, _, rfl, by rw [HX.out]; exact HR.out⟩⟩
end Go.Proofs.Ytfilmombflohpaa
