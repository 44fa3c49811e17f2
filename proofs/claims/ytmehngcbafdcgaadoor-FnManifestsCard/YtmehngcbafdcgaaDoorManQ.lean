/-
  The program's PackManifest.
-/
import Derived.Test.YtmehngcbafdcgaaDoorManP
import Derived.Test.YtmehngcbafdcgaaDoorManW
import Derived.Test.YtmehngcbafdcgaaDoorPathS
namespace Go.Proofs.YtmehngcbafdcgaaDoor
open Go.RowKit
set_option linter.unusedVariables false
set_option maxRecDepth 100000

theorem joinMark_any (m : UInt8) (a : Option Addr) (c n : Nat) (ps : List Bs) (w : World) (h : ReadsS w a ps) (hne : ps ≠ []) (hn : n = ps.length) (hc : n ≤ c) (hs : ps.length ≤ 1048576) (hl : (joinC m ps).length ≤ 140737488355328) :
    Calls Tryd.prog 22 #[.slice a n c, .string ⟨#[m]⟩] w fun e w' => e = .returned (.string (str (joinC m ps))) ∧ Below w.heap.size w w' := by
  obtain ⟨b, off, rfl, hb, hcell⟩ := h hne
  have mapstr : (ps.map str).map (fun x => x.data.toList) = ps := by
    rw [List.map_map]
    conv => rhs; rw [← List.map_id ps]
    apply List.map_congr_left
    intro p _
    exact str_data p
  have := Any.strings_Join Tryd.joinA Tryd.joinX b off c (ps.map str) ⟨#[m]⟩ w
    (fun j x hx => by
      rw [List.getElem?_map] at hx
      cases e : ps[j]? with
      | none => rw [e] at hx; simp at hx
      | some p =>
        rw [e] at hx
        simp at hx
        obtain ⟨hj, _⟩ := List.getElem?_eq_some_iff.1 e
        rw [hcell j hj, ← hx]
        simp [List.getD_eq_getElem?_getD, e])
    hb (by simp; omega) (by simp; omega)
    (by rw [mapstr]; show (Lib.join ps [m]).length ≤ _; rw [joinC_lib]; omega)
  rw [mapstr, List.length_map, ← hn] at this
  have e : Lib.join ps [m] = joinC m ps := joinC_lib m ps
  rw [← e]
  exact this

theorem own_full {base n : Nat} {e : TypeId} (w : World) (cur : Array Value) (hb : base ≤ w.heap.size) (hm : n ≤ maxLen) (hs : cur.size = n) :
    (w.alloc (.cells cur e)).ownsRow base e 1 (.slice (some ⟨w.heap.size, 0, none⟩) n n) n cur.toList :=
  ⟨by simp [hs], .inr ⟨w.heap.size, n, cur, rfl, hb, heap_alloc_new w _, Nat.le_refl _, hm, by omega, by rw [Nat.mul_one, ← hs, ← Array.length_toList, List.take_length]⟩⟩
theorem news_strs {w : World} {b off : Nat} {ps : List Bs} (h : ∀ i, i < ps.length → w.cell? ⟨b, off + i, none⟩ = some (.string (str (ps.getD i [])))) : ∀ j u, (ps.map vS)[j]? = some u → w.cell? ((⟨b, off, none⟩ : Addr).add j) = some u := by
  intro j u hj
  rw [addr_add]
  rw [List.getElem?_map] at hj
  cases e : ps[j]? with
  | none => rw [e] at hj; simp at hj
  | some p =>
    rw [e] at hj
    simp at hj
    obtain ⟨hl, _⟩ := List.getElem?_eq_some_iff.1 e
    rw [h j hl, ← hj]
    simp [List.getD_eq_getElem?_getD, e, vS]

set_option maxHeartbeats 3200000 in
theorem implPackManifest_any (n : Bs) (ds : List Int) (x : Option Addr) (c : Nat) (w : World) (h : Reads .i64 w x ds) (hn : n.length ≤ 2097152) (hd : ds.length ≤ 1048576) :
    Calls Tryd.prog 7 #[.agg #[.string (str n), .slice x ds.length c]] w fun r w' => r = .returned (.agg #[.int .i64 (manFault n ds), .string (str (packText n ds))]) ∧ Below w.heap.size w w' := by
  have M0 := hide (Box.new w (.string (str n)) (.slice x ds.length c) 27)
  have B0 := hide (below_alloc w (.cells #[.string (str n), .slice x ds.length c] 27))
  have R0 := hide (h.below B0.out)
  clear h
  have X0 := hide (Box.new (w.alloc (.cells #[.string (str n), .slice x ds.length c] 27)) (.int .i64 0) (.string ⟨#[]⟩) 32)
  have B1 := hide (below_next B0.out (below_alloc (w.alloc (.cells #[.string (str n), .slice x ds.length c] 27)) (.cells #[.int .i64 0, .string ⟨#[]⟩] 32)))
  have M1 := hide (M0.out.below (below_alloc _ (.cells #[.int .i64 0, .string ⟨#[]⟩] 32)))
  have R1 := hide (R0.out.below (below_alloc _ (.cells #[.int .i64 0, .string ⟨#[]⟩] 32)))
  have hs0 : (w.alloc (.cells #[.string (str n), .slice x ds.length c] 27)).heap.size = w.heap.size + 1 := by simp
  rw [hs0] at X0
  obtain ⟨⟨m0, m1⟩, m2, m3⟩ := M0.out
  go_enter Tryd.func7, Tryd.ntmps7
  go_wp2_with fail
  generalize (w.alloc (.cells #[.string (str n), .slice x ds.length c] 27)).alloc (.cells #[.int .i64 0, .string ⟨#[]⟩] 32) = W1 at *
  clear M0 B0 R0 m0 m1 m2 m3 hs0
  refine (manifestFault_any n ds x c W1 R1.out hn hd).mono ?_
  rintro r w2 ⟨rfl, hb2⟩
  have X2 := hide (X0.out.below hb2)
  have M2 := hide (M1.out.below hb2)
  have R2 := hide (R1.out.below hb2)
  have B2 := hide (below_next B1.out hb2)
  clear hb2 X0 M1 R1 B1
  obtain ⟨⟨t0, t1⟩, t2, t3⟩ := X2.out
  by_cases hf : manFault n ds = 0
  · have HF := hide (manFault_fit.1 hf)
    have HP := hide (packText_good hf)
    have hne : ds ≠ [] := HF.out.some
    have HMF := hide hf
    rw [hf]
    clear hf
    have HRD := hide (fun u (hu : Below w2.heap.size w2 u) => hexTexts_any ds x c u (R2.out.below hu) hd HF.out.digs)
    have KM : Hid (∀ w' : World, Below w2.heap.size w2 w' → w'.cell? ⟨w.heap.size, 0, none⟩ = some (.string (str n)) ∧ w'.cell? ⟨w.heap.size, 1, none⟩ = some (.slice x ds.length c)) := hide (fun w' hb' => (M2.out.below hb').1)
    obtain ⟨i1, ki, kz0, kz1, kz2⟩ := info_parts infoS
    obtain ⟨q0, q1⟩ := KM.out _ (Below.refl _ _)
    have c20 : ∀ o, (w2.alloc o).cell? ⟨w.heap.size, 0, none⟩ = some (.string (str n)) := fun o => (KM.out _ (below_alloc w2 o)).1
    have c21 : ∀ o, (w2.alloc o).cell? ⟨w.heap.size, 1, none⟩ = some (.slice x ds.length c) := fun o => (KM.out _ (below_alloc w2 o)).2
    go_wp2_with fail
    go_region_law
      ((first
        | (have hO3 := O3; clear hO3; refine step_app (by rfl) (.tmp 13) (.tmp 16) 44 (by rfl) w2.heap.size 9 i1 (.string ⟨#[]⟩) 1 16 Tryd.underlying44 ki kz0 kz1 kz2 rfl (by decide) (.slice (some ⟨w2.heap.size, 0, none⟩) 2 2) 2 [.string ⟨#[105, 109, 97, 103, 101]⟩, .string (str n)] (by rfl) R13.out ⟨gb, go, none⟩ ds.length hc ((ds.map hexB).map vS) (by rfl) (by simp) NW.out (by intro u hu; obtain ⟨p, -, rfl⟩ := List.mem_map.1 hu; rfl) (2 + ds.length) rfl (by unfold maxLen; omega) (by omega) BB1.out.size ?_; intro av4 cv4 w4 hown4 hk4; have O4 := hide hown4; have B4 := hide (Kept.below_own BB1.out BB1.out.size R13.out hk4); clear hown4 hk4)
        | (have hO3 := O3; clear hO3; refine step_app (by rfl) (.tmp 13) (.tmp 16) 44 (by rfl) w2.heap.size 9 i1 (.string ⟨#[]⟩) 1 16 Tryd.underlying44 ki kz0 kz1 kz2 rfl (by decide) (.slice (some ⟨w3.heap.size, 0, none⟩) 2 2) 2 [.string ⟨#[105, 109, 97, 103, 101]⟩, .string (str n)] (by rfl) (own_full (base := w2.heap.size) (e := 9) (n := 2) w3 #[.string ⟨#[105, 109, 97, 103, 101]⟩, .string (str n)] BB1.out.size (by decide) rfl) ⟨gb, go, none⟩ ds.length hc ((ds.map hexB).map vS) (by rfl) (by simp) (fun j u hj => by have h1 := NW.out j u hj; have h2 := World.block_lt_of_cell? w3 _ h1; exact ((below_alloc w3 (.cells #[.string ⟨#[105, 109, 97, 103, 101]⟩, .string (str n)] 9)).cell (p := (⟨gb, go, none⟩ : Addr).add j) h2).trans h1) (by intro u hu; obtain ⟨p, -, rfl⟩ := List.mem_map.1 hu; rfl) (2 + ds.length) rfl (by unfold maxLen; omega) (by omega) (by have := BB1.out.size; simp; omega) ?_; intro av4 cv4 w4 hown4 hk4; have O4 := hide hown4; have B4 := hide (Kept.below_own (below_next BB1.out (below_alloc w3 (.cells #[.string ⟨#[105, 109, 97, 103, 101]⟩, .string (str n)] 9))) (by have := BB1.out.size; simp; omega) (own_full (base := w2.heap.size) (e := 9) (n := 2) w3 #[.string ⟨#[105, 109, 97, 103, 101]⟩, .string (str n)] BB1.out.size (by decide) rfl) hk4); clear hown4 hk4)
        | (go_simp; go_wp2_with (go_at_call 21; refine (HRD.out _ (by first | exact (Below.refl _ _).drew | exact (below_alloc _ _).drew)).mono ?_; rintro r w3 ⟨ha, hc, rfl, hO3, hb3⟩; have BB1 : Hid (Below w2.heap.size w2 w3) := hide (by first | exact below_next (Below.refl _ _).drew hb3 | exact below_next (below_alloc _ _).drew hb3); obtain ⟨c30, c31⟩ := KM.out _ BB1.out; have c40 : ∀ o, (w3.alloc o).cell? ⟨w.heap.size, 0, none⟩ = some (.string (str n)) := (fun o => (KM.out _ (below_next BB1.out (below_alloc w3 o))).1); have c41 : ∀ o, (w3.alloc o).cell? ⟨w.heap.size, 1, none⟩ = some (.slice x ds.length c) := (fun o => (KM.out _ (below_next BB1.out (below_alloc w3 o))).2); obtain ⟨gb, go, rfl, hgb, hcell⟩ := hO3.reads (by simpa using hne); have NW : Hid (∀ j u, ((ds.map hexB).map vS)[j]? = some u → w3.cell? ((⟨gb, go, none⟩ : Addr).add j) = some u) := hide (news_strs hcell); have O3 := hide hO3; (first | (have R13 : Hid (w3.ownsRow w2.heap.size 9 1 (.slice (some ⟨w2.heap.size, 0, none⟩) 2 2) 2 [.string ⟨#[105, 109, 97, 103, 101]⟩, .string (str n)]) := hide (ownsRow_below (own_full (base := w2.heap.size) (e := 9) (n := 2) w2 #[.string ⟨#[105, 109, 97, 103, 101]⟩, .string (str n)] (Nat.le_refl _) (by decide) rfl) ((Below.refl _ _).drew.trans hb3))) | skip); clear hO3 hb3 hcell hgb))))
    all_goals
      have OW := hide (show OwnS w2.heap.size w4 (.slice av4 (2 + ds.length) cv4) (wordsM n ds) by
        have h4 := O4.out
        have e : (wordsM n ds).length = 2 + ds.length := by simp [wordsM]; omega
        unfold OwnS
        rw [e]
        exact h4)
      have X4 := hide (X2.out.below B4.out)
      have B5 := hide (below_next B2.out B4.out)
      have hcap := OW.out.cap (by simp [wordsM]; omega)
      have hwb := wordsM_bound HF.out
      have hmany := HF.out.many
      clear O4 B4 O3 NW BB1 c30 c31 c40 c41
      go_wp2_with fail
      refine (joinMark_any 32 av4 cv4 (2 + ds.length) (wordsM n ds) _ OW.out.reads (by simp [wordsM]) (by simp [wordsM]; omega) hcap (by simp [wordsM]; omega) (by omega)).mono ?_
      rintro r w5 ⟨rfl, hb5⟩
      have B6 := hide (below_next B5.out hb5)
      obtain ⟨⟨s0, s1⟩, s2, s3⟩ := X4.out.below hb5
      have HS := hide (show str (joinC 32 (wordsM n ds)) ++ (⟨#[10]⟩ : ByteArray) = str (packText n ds) by rw [HP.out]; exact str_append _ [10])
      have hz1 : ¬ 9223372036854775807 < (str (joinC 32 (wordsM n ds))).size + 1 := by rw [str_size]; omega
      clear hb5
      go_wp2_with fail
      rw [HS.out]
      exact bodyPost_ret (v := .agg #[.int .i64 0, .string (str (packText n ds))]) (by simp [results, Tryd.results7, go_sem, s0, s1]) rfl ⟨by rw [HMF.out], (B6.out.setCell (p := ⟨w.heap.size + 1, 0, none⟩) (Nat.le_succ _) _).setCell (p := ⟨w.heap.size + 1, 1, none⟩) (Nat.le_succ _) _⟩
  · have HP := hide (packText_bad hf)
    have hne : (manFault n ds != 0) = true := by simp; exact hf
    go_wp2_with fail
    rw [HP.out]
    exact bodyPost_ret (v := .agg #[.int .i64 (manFault n ds), .string ⟨#[]⟩]) (by simp [results, Tryd.results7, go_sem, t0, t1]) rfl ⟨rfl, (B2.out.setCell (p := ⟨w.heap.size + 1, 0, none⟩) (Nat.le_succ _) _).setCell (p := ⟨w.heap.size + 1, 1, none⟩) (Nat.le_succ _) _⟩
end Go.Proofs.YtmehngcbafdcgaaDoor
