/-
  The model's trees: the names in a directory, replies, what is written, made and removed; ListTree.
-/
import Derived.Test.YtmpojjlpopimfaaGreatTreM
import Derived.Test.YtmpojjlpopimfaaGreatTreR
import Derived.Test.YtmpojjlpopimfaaGreatJ2
import Derived.Test.YtmpojjlpopimfaaGreatEntH
namespace Go.Proofs.YtmpojjlpopimfaaGreat
open Go.RowKit Go.Maps
set_option linter.unusedVariables false
attribute [local go_sem ↓] Go.wp_at_zero Go.wp_at_succ

theorem RightT.small {es : List En} (h : RightT es) : SmallE es := fun e he => by
  obtain ⟨ns, hN, hpe, _, _⟩ := faultP_zero (h.path he)
  have h1 := join_len ns hN.2.2.1
  have h2 := hN.2.2.2
  have h3 := entFault_chunks (h.ent e he)
  rw [hpe]
  omega
/-- The last name of a path. -/
def lastP (p : Bs) : Bs := lastN (cutB p.tail)
/-- The names of what has a path as its parent. -/
def namesE (es : List En) (q : Bs) : List Bs := (kidsE es q).map fun e => lastP e.path
theorem namesE_in {es : List En} {q : Bs} {k : Nat} {e : En} (he : es[k]? = some e) (h : parentP e.path = q) : namesE (es.take (k + 1)) q = namesE (es.take k) q ++ [lastP e.path] := by
  unfold namesE kidsE
  rw [take_snoc_at he, List.filter_append]
  simp [h]
theorem namesE_out {es : List En} {q : Bs} {k : Nat} {e : En} (he : es[k]? = some e) (h : parentP e.path ≠ q) : namesE (es.take (k + 1)) q = namesE (es.take k) q := by
  unfold namesE kidsE
  rw [take_snoc_at he, List.filter_append]
  simp [h]
theorem namesE_len (es : List En) (q : Bs) : (namesE es q).length ≤ es.length := by
  unfold namesE kidsE
  rw [List.length_map]
  exact List.length_filter_le _ _

set_option maxRecDepth 100000 in
set_option maxHeartbeats 1600000 in
theorem l6Names_any (a : Option Addr) (c n : Nat) (es : List En) (q : Bs) (w : World) (h : RdE w a es) (hn : n = es.length) (hR : RightT es) :
    Calls Tryz.prog 171 #[.slice a n c, .string (str q)] w fun r w' => ∃ av cv, r = .returned (.slice av (namesE es q).length cv) ∧ OwnS w.heap.size w' (.slice av (namesE es q).length cv) (namesE es q) ∧ Below w.heap.size w w' := by
  subst hn
  obtain ⟨i1, ki, kz0, kz1, kz2⟩ := info_parts infoS
  have hl := hR.len
  have O0 := hide (show OwnS w.heap.size (w.alloc (.cells #[] 9)) (.slice (some ⟨w.heap.size, 0, none⟩) 0 0) [] from World.ownsRow_made (base := w.heap.size) (e := 9) (size := 1) w #[] 0 (Nat.le_refl _) (Nat.zero_le _) rfl)
  have B0 := hide (below_alloc w (.cells #[] 9))
  have HR := hide h
  have HRT := hide hR
  clear h hR
  go_enter Tryz.func171, Tryz.ntmps171
  go_wp2_with fail
  go_loopw [5, 6] (fun v i wr => ∃ k : Nat, k ≤ es.length ∧ i = .int .i64 k ∧ Hid (OwnS w.heap.size wr v (namesE (es.take k) q)) ∧ Hid (Below w.heap.size w wr)) (fun _ i _ => es.length - (intOf i).toNat)
  case atStart => exact ⟨0, Nat.zero_le _, rfl, O0, B0⟩
  case round =>
    obtain ⟨k, hk, rfl, HO, HW⟩ := hrel
    have hsz := HW.out.size
    obtain ⟨lv, lc, hv⟩ := HO.out.shape
    subst hv
    have hnl := namesE_len (es.take k) q
    rw [List.length_take] at hnl
    by_cases hlt : k < es.length
    · have HR1 := hide (HR.out.below HW.out)
      obtain ⟨b, off, e, x, cc, rfl, hb, he, c0, c1, c2, c3, hr⟩ := HR1.out.at hlt
      have hpf := HRT.out.path (List.mem_of_getElem? he)
      have hpos := path_pos hpf
      have hsm := HRT.out.small e (List.mem_of_getElem? he)
      have HX := hide he
      clear he hr c1 c2 c3 hpf
      have HP := hide (show (aboveN (cutB (str e.path).data.toList.tail)).getLastD [] = parentP e.path from by rw [str_data]; rfl)
      have HLA := hide (show lastN (cutB (str e.path).data.toList.tail) = lastP e.path from by rw [str_data]; rfl)
      by_cases hq : parentP e.path = q
      · have hs1 := str_yes hq
        have HN := hide (namesE_in HX.out hq)
        clear hq
        go_wp2_with fail
        refine (l3Parent_any _ _ (by rw [str_size]; omega) (by rw [str_size]; omega)).mono ?_
        rintro r w1 ⟨rfl, hb1⟩
        rw [HP.out]
        have HW1 := hide (below_next HW.out hb1)
        have O1 := hide (HO.out.below hb1)
        have hb' := Nat.lt_of_lt_of_le hb hb1.size
        have c0' := (hb1.cell (p := ⟨b, off + k * 4, none⟩) hb).trans c0
        clear hb1 c0 hb HO HW
        go_wp2_with fail
        refine (l3Last_any _ _ (by rw [str_size]; omega) (by rw [str_size]; omega)).mono ?_
        rintro r w2 ⟨rfl, hb2⟩
        rw [HLA.out]
        have HW2 := hide (below_next HW1.out hb2)
        have O2 := hide (O1.out.below hb2)
        clear hb2 O1 HW1
        have hsz2 := HW2.out.size
        obtain ⟨L, hL⟩ : ∃ L, L = (namesE (es.take k) q).length := ⟨_, rfl⟩
        have hm1 : L + 1 ≤ maxLen := by unfold maxLen; omega
        have hm2 : (L + 1) * 16 ≤ 140737488355328 := by omega
        have O2' : Hid (w2.ownsRow w.heap.size 9 1 (.slice lv L lc) L ((namesE (es.take k) q).map vS)) := by have := O2.out; unfold OwnS at this; rw [← hL] at this; exact this
        rw [← hL]
        have HLn := hide hL
        clear hL
        go_wp2_with (at_builtin; refine wpList_append_one rfl (.tmp 22) (.tmp 29) 46 rfl w.heap.size 9 i1 (.string ⟨#[]⟩) 1 16 Tryz.underlying46 ki kz0 kz1 kz2 rfl (by decide) _ _ _ rfl O2'.out rfl rfl (by intro u hu; simp at hu; subst hu; rfl) hm1 hm2 hsz2 ?_; intro v' w3 hown3 hkept; have O3 := hide (show OwnS w.heap.size w3 v' (namesE (es.take k) q ++ [lastP e.path]) from OwnS.snoc (by rw [← HLn.out]; exact hown3) rfl); have K3 := hide hkept; clear hown3 hkept)
        go_roundw
        case rel =>
          refine ⟨k + 1, by omega, by go_num, hide ?_, hide ?_⟩
          · rw [HN.out]; exact O3.out
          · exact Kept.below_own HW2.out hsz2 O2'.out K3.out
        case measure => simp [intOf]; omega
      · have hs1 := str_no hq
        have HN := hide (namesE_out HX.out hq)
        clear hq
        go_wp2_with fail
        refine (l3Parent_any _ _ (by rw [str_size]; omega) (by rw [str_size]; omega)).mono ?_
        rintro r w1 ⟨rfl, hb1⟩
        rw [HP.out]
        have HW1 := hide (below_next HW.out hb1)
        have O1 := hide (HO.out.below hb1)
        clear hb1 c0 HO HW
        go_wp2_with fail
        go_roundw
        case rel => exact ⟨k + 1, by omega, by go_num, hide (by rw [HN.out]; exact O1.out), HW1⟩
        case measure => simp [intOf]; omega
    · have HE := hide (show es.take k = es from List.take_of_length_le (by omega))
      rw [HE.out] at HO ⊢
      clear HE
      go_wp2_with fail
      go_ret
      exact ⟨lv, lc, rfl, HO.out, HW.out⟩

set_option maxRecDepth 100000 in
set_option maxHeartbeats 800000 in
theorem l6Reply_any (a : Option Addr) (c n : Nat) (es : List En) (q : Int) (w : World) (h : RdE w a es) (hn : n = es.length) (hl : es.length ≤ 1048576) (hs : SmallE es) :
    Calls Tryz.prog 170 #[.slice a n c, .int .i64 q] w (ResT 0 q es w) := by
  subst hn
  have X0 := hide (Box3.new w (.int .i64 0) (.int .i64 0) (.slice none 0 0) 32)
  have B0 := hide (below_alloc w (.cells #[.int .i64 0, .int .i64 0, .slice none 0 0] 32))
  have HR := hide (h.below B0.out)
  have HS := hide hs
  have hs1 : w.heap.size < (w.alloc (.cells #[.int .i64 0, .int .i64 0, .slice none 0 0] 32)).heap.size := by simp
  clear h hs
  go_enter Tryz.func170, Tryz.ntmps170
  go_wp2_with fail
  generalize w.alloc (.cells #[.int .i64 0, .int .i64 0, .slice none 0 0] 32) = W0 at *
  refine (l4Copy_any a c es.length es _ HR.out rfl hl HS.out).mono ?_
  rintro r w1 ⟨g, cv, rfl, -, hG, hb⟩
  have G1 := hide hG
  have B1 := hide (below_next B0.out hb)
  obtain ⟨⟨t0, t1, t2⟩, tf0, tf1, tf2⟩ := X0.out.below hb
  clear hG hb
  go_wp2_with fail
  exact bodyPost_ret (v := .agg #[.int .i64 0, .int .i64 q, .slice (some ⟨g, 0, none⟩) es.length cv]) (by simp [results, Tryz.results170, go_sem, t0, t1, t2]) rfl (ResT.of hs1 (Nat.le_refl _) rfl G1.out B1.out)
end Go.Proofs.YtmpojjlpopimfaaGreat
