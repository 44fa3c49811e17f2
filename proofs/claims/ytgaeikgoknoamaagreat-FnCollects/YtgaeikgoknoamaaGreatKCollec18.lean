/-
  Texts put together: TreI MerP MerQ MerR.
-/
import Derived.Test.YtgaeikgoknoamaaGreatKCollec17
import Derived.Test.YtgaeikgoknoamaaGreatKCollec7
import Derived.Deep.RegionHeld3
import Derived.Test.YtgaeikgoknoamaaGreatKCollec9
set_option linter.unusedVariables false
set_option maxHeartbeats 6400000
set_option maxRecDepth 100000
namespace Go.Proofs.YtgaeikgoknoamaaGreat
open Go.RowKit Go.Maps Go.Sort
attribute [local go_sem ↓] Go.wp_at_zero Go.wp_at_succ
theorem uO {u:World} {b:Nat} {e:En} {x:Option Addr} {cc:Nat} (h:cP u b (.int .i64 e.size) (.slice x e.chunks.length cc) (.string (str e.path)) (.int .i64 e.kind)):∀ j v,(dB ⟨e,x,cc⟩)[j]?=some v→u.cell? ((⟨b,0,none⟩:Addr).add j)=some v:=by
 intro j v hj;rw[zv2,Nat.zero_add];obtain ⟨h0,h1,h2,h3⟩:=h
 match j,hj with
 | 0,hj=>simp[dB]at hj;subst hj;exact h0
 | 1,hj=>simp[dB]at hj;subst hj;exact h1
 | 2,hj=>simp[dB]at hj;subst hj;exact h2
 | 3,hj=>simp[dB]at hj;subst hj;exact h3
theorem zt5 (a:Option Addr) (c n:Nat) (es:List En) (e:En) (x:Option Addr) (cc:Nat) (w:World) (h:RdI w a es) (hn:n=es.length) (hl:es.length≤1048575) (hs:bJ es) (hr:fG es) (hx:aZ .i64 w x e.chunks) :
  Calls Tryz.prog 183 #[.slice a n c,.agg #[.int .i64 e.size,.slice x e.chunks.length cc,.string (str e.path),.int .i64 e.kind]] w fun r w'=>∃ g cv,r=.returned (.slice (some ⟨g,0,none⟩) (dK (eU es e.path) e).length cv)∧RdI w' (some ⟨g,0,none⟩) (dK (eU es e.path) e)∧Below w.heap.size w w':=by
 subst hn;obtain ⟨i1,ki,kz0,kz1,kz2⟩:=info_parts Tryz.infoIt;have B0:=aA (aC w (.cells #[.int .i64 e.size,.slice x e.chunks.length cc,.string (str e.path),.int .i64 e.kind] 91));have F0:=aA (cP.new w (.int .i64 e.size) (.slice x e.chunks.length cc) (.string (str e.path)) (.int .i64 e.kind) 91);have HR:=aA (h.below B0.out);have HX:=aA (hx.below B0.out);have HS:=aA hs;have hle:es.length≤1048576:=by omega
 have hoff:=zwf es e.path;have HRI:=aA (zxf hr e.path);have HNE:=aA (show ∀ y∈eU es e.path,y.path≠e.path from fun y hy=>(zsf.1 hy).2)
 have HPL:=aA (show (dK (eU es e.path) e).length=(eU es e.path).length+1 from by unfold dK;simp only[List.length_append,List.length_cons,List.length_take,List.length_drop];omega)
 clear h hs hr hx;go_enter Tryz.func183,Tryz.ntmps183;go_wp2_with fail
 generalize w.alloc (.cells #[.int .i64 e.size,.slice x e.chunks.length cc,.string (str e.path),.int .i64 e.kind] 91)=W0 at *;have KC:Hid (∀ w':World,Below W0.heap.size W0 w'→w'.cell? ⟨w.heap.size,0,none⟩=some (.int .i64 e.size)∧w'.cell? ⟨w.heap.size,1,none⟩=some (.slice x e.chunks.length cc)∧w'.cell? ⟨w.heap.size,2,none⟩=some (.string (str e.path))∧w'.cell? ⟨w.heap.size,3,none⟩=some (.int .i64 e.kind)):=aA (fun w' hb=>F0.out.below hb)
 refine wp_region_held_drew (S:=fun w'=>w'.cell? ⟨w.heap.size,0,none⟩=some (.int .i64 e.size)∧w'.cell? ⟨w.heap.size,1,none⟩=some (.slice x e.chunks.length cc)∧w'.cell? ⟨w.heap.size,2,none⟩=some (.string (str e.path))∧w'.cell? ⟨w.heap.size,3,none⟩=some (.int .i64 e.kind)) (by kernel_rfl) (KC.out _ (Below.refl _ _).drew) (fun hHeld=>?_)
 change wpAnyH _ _ _ _ _ _ (Array.replicate _ false) _ _;refine wpAnyH_take (i:=0) (oi:=⟨some 6,_,_,_,_,_⟩) (v:=.slice a es.length c) rfl (by kernel_rfl) (by kernel_rfl) (by kernel_rfl) (fun _ _ _ h=>h) (Or.inl ⟨by rfl,?_⟩) hHeld ?_
 ·intro w hSw
  (try obtain ⟨q0,q1,q2,q3⟩:=hSw)
  go_simp
 try simp only[Act.put,zsE]
 refine wpAnyH_take (i:=1) (oi:=⟨some 7,_,_,_,_,_⟩) (v:=.pointer (some ⟨w.heap.size,2,none⟩)) rfl (by kernel_rfl) (by kernel_rfl) (by kernel_rfl) (fun _ _ _ h=>h) (Or.inl ⟨by rfl,?_⟩) hHeld ?_
 ·intro w hSw
  (try obtain ⟨q0,q1,q2,q3⟩:=hSw)
  go_simp
 try simp only[Act.put,zsE]
 refine wpAnyH_take (i:=2) (oi:=⟨some 8,_,_,_,_,_⟩) (v:=.string (str e.path)) rfl (by kernel_rfl) (by kernel_rfl) (by kernel_rfl) (fun _ _ _ h=>h) (Or.inl ⟨by rfl,?_⟩) hHeld ?_
 ·intro w hSw
  (try obtain ⟨q0,q1,q2,q3⟩:=hSw)
  go_simp
 try simp only[Act.put,zsE]
 refine wpAnyH_take (i:=5) (oi:=⟨some 11,_,_,_,_,_⟩) (v:=.agg #[.int .i64 e.size,.slice x e.chunks.length cc,.string (str e.path),.int .i64 e.kind]) rfl (by kernel_rfl) (by kernel_rfl) (by kernel_rfl) (fun _ _ _ h=>h) (Or.inl ⟨by rfl,?_⟩) hHeld ?_
 ·intro w hSw
  (try obtain ⟨q0,q1,q2,q3⟩:=hSw)
  go_simp
 try simp only[Act.put,zsE]
 have hm1:(eU es e.path).length+1≤maxLen:=by unfold maxLen;omega
 have hm2:((eU es e.path).length+1) * 56≤140737488355328:=by omega
 refine wpAnyH_ready (rs:=[3,6]) (by kernel_rfl) (by simp) ?_
 refine AllReadyH.cons rfl (fun K hK=>?_) (AllReadyH.cons rfl (fun K hK=>?_) AllReadyH.nil)
 ·-- isAt first
  go_simp
  refine (zs3 e.path _).mono ?_;rintro r w3 ⟨rfl,hb3,hA⟩;have HA:=aA hA;have B3:=aA (aB ((Below.refl W0.heap.size W0).drew) hb3);clear hA hb3;go_wp2_with fail
  refine hK.out _ _ (KC.out _ B3.out) (fun hHeld=>?_)
  clear hK K;refine wpAnyH_ready (rs:=[4,6]) (by kernel_rfl) (by simp) ?_
  refine AllReadyH.cons rfl (fun K hK=>?_) (AllReadyH.cons rfl (fun K hK=>?_) AllReadyH.nil)
  ·-- without,then the row
   go_simp
   refine (lG a c es.length es _ _ _ _ (HR.out.below (B3.out)) rfl hle HS.out (HA.out.next (Below.refl _ _))).mono ?_;rintro r w4 ⟨av4,cv4,w1,rfl,hL4,hb4,hb4'⟩;have B1:=aA (aB (B3.out) hb4);have B4:=aA (aB B1.out hb4');have HL4:Hid (LI w1 w4 (.slice av4 (eU es e.path).length cv4) (eU es e.path)):=aA hL4;have BB4:=aA hb4';clear hL4 hb4 hb4';go_wp2_with fail
   refine hK.out _ _ (KC.out _ B4.out) (fun hHeld=>?_)
   clear hK K;refine wpAnyH_ready (rs:=[6]) (by kernel_rfl) (by simp) ?_
   refine AllReadyH.cons rfl (fun K hK=>?_) AllReadyH.nil
   have F4:=aA (cP.new w4 (.int .i64 e.size) (.slice x e.chunks.length cc) (.string (str e.path)) (.int .i64 e.kind) 91);have B5:=aA (aB B4.out (aC w4 (.cells #[.int .i64 e.size,.slice x e.chunks.length cc,.string (str e.path),.int .i64 e.kind] 91)));have BB5:=aA (aB BB4.out (aC w4 (.cells #[.int .i64 e.size,.slice x e.chunks.length cc,.string (str e.path),.int .i64 e.kind] 91)));go_simp
   refine hK.out _ _ (KC.out _ (B5.out)) (fun hHeld=>?_)
   clear hK K;obtain ⟨rs,g1,g2,g3⟩:=HL4.out;have G1:=aA g1;have G3:=aA g3;have G2:=aA (aJ g2 (aC w4 (.cells #[.int .i64 e.size,.slice x e.chunks.length cc,.string (str e.path),.int .i64 e.kind] 91)));clear g1 g2 g3;have hs4:=BB4.out.size;refine wpAnyH_ready (rs:=[7]) (by kernel_rfl) (by simp) ?_
   refine AllReadyH.cons (o:=⟨some 13,_,_,_,_,_⟩) rfl (fun K hK=>?_) AllReadyH.nil
   refine yF (by rfl) (.tmp 10) (.tmp 12) 118 (by rfl) w1.heap.size 91 i1 (.agg #[.int .i64 0,.slice none 0 0,.string ⟨#[]⟩,.int .i64 0]) 4 56 Tryz.underlying118 ki kz0 kz1 kz2 rfl (by decide) (.slice av4 (eU es e.path).length cv4) (eU es e.path).length (iJ rs) (by rfl) G2.out ⟨w4.heap.size,0,none⟩ 1 1 (dB ⟨e,x,cc⟩) (by rfl) (by rfl) (uO F4.out) (fun v hv=>sT [⟨e,x,cc⟩] v (by simpa [iJ] using hv)) ((eU es e.path).length+1) rfl hm1 hm2 (by have:=(BB5.out).size;omega) ?_
   intro av7 cv7 w7 hown7 hk7;have O7:=aA hown7;have B7:=aA ((B5.out).trans (hk7.below (B:=W0.heap.size) (B5.out).size (fun q hq hS=>by have h1:=(G2.out.lt q hS).1;have h2:=B1.out.size;omega)))
   have BB7:=aA (aE.below_own (B:=w1.heap.size) (BB5.out) (BB5.out).size G2.out hk7);clear hown7 hk7;obtain ⟨g,rfl,hso⟩:=pR w (eU es e.path) e x cc rs av7 cv7 w1 w7 G1.out G3.out (HX.out.below B1.out) BB7.out (by have h1:=B0.out.size;have h2:=B1.out.size;omega) (aB B0.out B7.out) O7.out (by omega) HRI.out HNE.out
   have HSO:=aA hso;clear hso;refine hK.out _ _ (KC.out _ B7.out) (fun hHeld=>?_)
   clear hK K;simp only[Act.put,zsE];refine wpAnyH_take (i:=8) (oi:=⟨some 5,_,_,_,_,_⟩) (v:=.slice (some ⟨g,0,none⟩) ((eU es e.path).length+1) cv7) rfl (by kernel_rfl) (by kernel_rfl) (by kernel_rfl) (fun _ _ _ h=>h) (Or.inl ⟨by rfl,?_⟩) hHeld ?_
   ·intro w hSw
    go_simp
   simp only[Act.put,zsE];refine wpAnyH_done (by kernel_rfl) ?_ _
   go_wp2_with fail
   refine HSO.out.mono ?_;rintro r w8 ⟨rfl,hri,hb8⟩;have RI:=aA hri;have B8:=aA hb8;clear hri hb8;go_wp2_with fail
   go_ret
   exact ⟨g,cv7,by rw[HPL.out];rfl,RI.out,B8.out⟩
  ·-- the row,then without
   have F4:=aA (cP.new w3 (.int .i64 e.size) (.slice x e.chunks.length cc) (.string (str e.path)) (.int .i64 e.kind) 91);have B5:=aA (aB B3.out (aC w3 (.cells #[.int .i64 e.size,.slice x e.chunks.length cc,.string (str e.path),.int .i64 e.kind] 91)));go_simp
   refine hK.out _ _ (KC.out _ (B5.out)) (fun hHeld=>?_)
   clear hK K;refine wpAnyH_ready (rs:=[4]) (by kernel_rfl) (by simp) ?_
   refine AllReadyH.cons rfl (fun K hK=>?_) AllReadyH.nil
   go_simp
   refine (lG a c es.length es _ _ _ _ (HR.out.below (B5.out)) rfl hle HS.out (HA.out.next (aC w3 (.cells #[.int .i64 e.size,.slice x e.chunks.length cc,.string (str e.path),.int .i64 e.kind] 91)))).mono ?_;rintro r w4 ⟨av4,cv4,w1,rfl,hL4,hb4,hb4'⟩;have B1:=aA (aB (B5.out) hb4);have B4:=aA (aB B1.out hb4');have HL4:Hid (LI w1 w4 (.slice av4 (eU es e.path).length cv4) (eU es e.path)):=aA hL4;have BB4:=aA hb4';have F5:=aA ((F4.out.below hb4).below hb4');clear hL4 hb4 hb4';go_wp2_with fail
   refine hK.out _ _ (KC.out _ B4.out) (fun hHeld=>?_)
   clear hK K;obtain ⟨rs,g1,g2,g3⟩:=HL4.out;have G1:=aA g1;have G3:=aA g3;have G2:=aA (g2);clear g1 g2 g3;have hs4:=BB4.out.size;refine wpAnyH_ready (rs:=[7]) (by kernel_rfl) (by simp) ?_
   refine AllReadyH.cons (o:=⟨some 13,_,_,_,_,_⟩) rfl (fun K hK=>?_) AllReadyH.nil
   refine yF (by rfl) (.tmp 10) (.tmp 12) 118 (by rfl) w1.heap.size 91 i1 (.agg #[.int .i64 0,.slice none 0 0,.string ⟨#[]⟩,.int .i64 0]) 4 56 Tryz.underlying118 ki kz0 kz1 kz2 rfl (by decide) (.slice av4 (eU es e.path).length cv4) (eU es e.path).length (iJ rs) (by rfl) G2.out ⟨w3.heap.size,0,none⟩ 1 1 (dB ⟨e,x,cc⟩) (by rfl) (by rfl) (uO F5.out) (fun v hv=>sT [⟨e,x,cc⟩] v (by simpa [iJ] using hv)) ((eU es e.path).length+1) rfl hm1 hm2 (by have:=(BB4.out).size;omega) ?_
   intro av7 cv7 w7 hown7 hk7;have O7:=aA hown7;have B7:=aA ((B4.out).trans (hk7.below (B:=W0.heap.size) (B4.out).size (fun q hq hS=>by have h1:=(G2.out.lt q hS).1;have h2:=B1.out.size;omega)))
   have BB7:=aA (aE.below_own (B:=w1.heap.size) (BB4.out) (BB4.out).size G2.out hk7);clear hown7 hk7;obtain ⟨g,rfl,hso⟩:=pR w (eU es e.path) e x cc rs av7 cv7 w1 w7 G1.out G3.out (HX.out.below B1.out) BB7.out (by have h1:=B0.out.size;have h2:=B1.out.size;omega) (aB B0.out B7.out) O7.out (by omega) HRI.out HNE.out
   have HSO:=aA hso;clear hso;refine hK.out _ _ (KC.out _ B7.out) (fun hHeld=>?_)
   clear hK K;simp only[Act.put,zsE];refine wpAnyH_take (i:=8) (oi:=⟨some 5,_,_,_,_,_⟩) (v:=.slice (some ⟨g,0,none⟩) ((eU es e.path).length+1) cv7) rfl (by kernel_rfl) (by kernel_rfl) (by kernel_rfl) (fun _ _ _ h=>h) (Or.inl ⟨by rfl,?_⟩) hHeld ?_
   ·intro w hSw
    go_simp
   simp only[Act.put,zsE];refine wpAnyH_done (by kernel_rfl) ?_ _
   go_wp2_with fail
   refine HSO.out.mono ?_;rintro r w8 ⟨rfl,hri,hb8⟩;have RI:=aA hri;have B8:=aA hb8;clear hri hb8;go_wp2_with fail
   go_ret
   exact ⟨g,cv7,by rw[HPL.out];rfl,RI.out,B8.out⟩
 ·-- the row first
  have F4:=aA ((cP.new W0 (.int .i64 e.size) (.slice x e.chunks.length cc) (.string (str e.path)) (.int .i64 e.kind) 91).below (Below.refl _ _).drew);have B5:=aA ((aC W0 (.cells #[.int .i64 e.size,.slice x e.chunks.length cc,.string (str e.path),.int .i64 e.kind] 91)).drew);go_simp
  refine hK.out _ _ (KC.out _ (B5.out)) (fun hHeld=>?_)
  clear hK K;generalize (W0.alloc (.cells #[.int .i64 e.size,.slice x e.chunks.length cc,.string (str e.path),.int .i64 e.kind] 91)).drew=V at *;refine wpAnyH_ready (rs:=[3]) (by kernel_rfl) (by simp) ?_
  refine AllReadyH.cons rfl (fun K hK=>?_) AllReadyH.nil
  go_simp
  refine (zs3 e.path _).mono ?_;rintro r w3 ⟨rfl,hb3,hA⟩;have HA:=aA hA;have B3:=aA (aB (B5.out) hb3);have F3:=aA (F4.out.below hb3);clear hA hb3;go_wp2_with fail
  refine hK.out _ _ (KC.out _ B3.out) (fun hHeld=>?_)
  clear hK K;refine wpAnyH_ready (rs:=[4]) (by kernel_rfl) (by simp) ?_
  refine AllReadyH.cons rfl (fun K hK=>?_) AllReadyH.nil
  go_simp
  refine (lG a c es.length es _ _ _ _ (HR.out.below (B3.out)) rfl hle HS.out (HA.out.next (Below.refl _ _))).mono ?_;rintro r w4 ⟨av4,cv4,w1,rfl,hL4,hb4,hb4'⟩;have B1:=aA (aB (B3.out) hb4);have B4:=aA (aB B1.out hb4');have HL4:Hid (LI w1 w4 (.slice av4 (eU es e.path).length cv4) (eU es e.path)):=aA hL4;have BB4:=aA hb4';have F5:=aA ((F3.out.below hb4).below hb4');clear hL4 hb4 hb4';go_wp2_with fail
  refine hK.out _ _ (KC.out _ B4.out) (fun hHeld=>?_)
  clear hK K;obtain ⟨rs,g1,g2,g3⟩:=HL4.out;have G1:=aA g1;have G3:=aA g3;have G2:=aA (g2);clear g1 g2 g3;have hs4:=BB4.out.size;refine wpAnyH_ready (rs:=[7]) (by kernel_rfl) (by simp) ?_
  refine AllReadyH.cons (o:=⟨some 13,_,_,_,_,_⟩) rfl (fun K hK=>?_) AllReadyH.nil
  refine yF (by rfl) (.tmp 10) (.tmp 12) 118 (by rfl) w1.heap.size 91 i1 (.agg #[.int .i64 0,.slice none 0 0,.string ⟨#[]⟩,.int .i64 0]) 4 56 Tryz.underlying118 ki kz0 kz1 kz2 rfl (by decide) (.slice av4 (eU es e.path).length cv4) (eU es e.path).length (iJ rs) (by rfl) G2.out ⟨W0.heap.size,0,none⟩ 1 1 (dB ⟨e,x,cc⟩) (by rfl) (by rfl) (uO F5.out) (fun v hv=>sT [⟨e,x,cc⟩] v (by simpa [iJ] using hv)) ((eU es e.path).length+1) rfl hm1 hm2 (by have:=(BB4.out).size;omega) ?_
  intro av7 cv7 w7 hown7 hk7;have O7:=aA hown7;have B7:=aA ((B4.out).trans (hk7.below (B:=W0.heap.size) (B4.out).size (fun q hq hS=>by have h1:=(G2.out.lt q hS).1;have h2:=B1.out.size;omega)))
  have BB7:=aA (aE.below_own (B:=w1.heap.size) (BB4.out) (BB4.out).size G2.out hk7);clear hown7 hk7;obtain ⟨g,rfl,hso⟩:=pR w (eU es e.path) e x cc rs av7 cv7 w1 w7 G1.out G3.out (HX.out.below B1.out) BB7.out (by have h1:=B0.out.size;have h2:=B1.out.size;omega) (aB B0.out B7.out) O7.out (by omega) HRI.out HNE.out
  have HSO:=aA hso;clear hso;refine hK.out _ _ (KC.out _ B7.out) (fun hHeld=>?_)
  clear hK K;simp only[Act.put,zsE];refine wpAnyH_take (i:=8) (oi:=⟨some 5,_,_,_,_,_⟩) (v:=.slice (some ⟨g,0,none⟩) ((eU es e.path).length+1) cv7) rfl (by kernel_rfl) (by kernel_rfl) (by kernel_rfl) (fun _ _ _ h=>h) (Or.inl ⟨by rfl,?_⟩) hHeld ?_
  ·intro w hSw
   go_simp
  simp only[Act.put,zsE];refine wpAnyH_done (by kernel_rfl) ?_ _
  go_wp2_with fail
  refine HSO.out.mono ?_;rintro r w8 ⟨rfl,hri,hb8⟩;have RI:=aA hri;have B8:=aA hb8;clear hri hb8;go_wp2_with fail
  go_ret
  exact ⟨g,cv7,by rw[HPL.out];rfl,RI.out,B8.out⟩
end Go.Proofs.YtgaeikgoknoamaaGreat
namespace Go.Proofs.YtgaeikgoknoamaaGreat
open Go.RowKit Go.Maps
attribute [local go_sem ↓] Go.wp_at_zero Go.wp_at_succ
theorem zf5 {es:List En} {p:Bs} (h:∀ x∈es,aG x.path=0) (hp:aG p=0):(es.filter fun e=>!(fP e.path p))=bF es p true:=by
 unfold bF;apply List.filter_congr
 intro x hx;rw[fP,oO (h x hx) hp,jG,Bool.true_and,Bool.or_comm]
theorem zpd {es:List En} {p:Bs} (h:∀ x∈es,aG x.path=0) (hp:aG p=0):eU (es.filter fun e=>!(eG e.path p)) p=bF es p true:=by
 unfold eU bF;rw[List.filter_filter];apply List.filter_congr
 intro x hx;rw[oO (h x hx) hp,jG,Bool.true_and,Bool.not_or,Bool.and_comm]
theorem Fit.small {es:List En} (h:Fit es):bJ es:=by
 intro e he;have h1:=zod (h.path he);have h3:=fK (h.ent e he);omega
theorem zc0 (p:Bs) (b:Nat) (e:En) (a:Option Addr) (c:Nat) (w:World) (h:w.cell? ⟨b,0,none⟩=some (.string (str p))) (hl:e.path.length≤1048576) :
  Calls Tryz.prog 181 #[.agg #[.int .i64 e.size,.slice a e.chunks.length c,.string (str e.path),.int .i64 e.kind],.pointer (some ⟨b,0,none⟩)] w fun r w'=>r=.returned (.bool (fP e.path p))∧Below w.heap.size w w':=by
 have HB0:=aA (aC w (.cells #[.int .i64 e.size,.slice a e.chunks.length c,.string (str e.path),.int .i64 e.kind] 91));have hb:=World.block_lt_of_cell? w ⟨b,0,none⟩ h;have hbw:=(HB0.out.cell (p:=⟨b,0,none⟩) hb).trans h;have HC:=aA (fun (u:World)=>yV e.path p e.kind e.size a e.chunks.length c u hl)
 generalize fP e.path p=Z at *;go_enter Tryz.func181,Tryz.ntmps181;go_wp2_with fail
 refine (HC.out _).mono ?_;rintro r w1 ⟨rfl,hb1⟩;have B1:=aA (aB HB0.out hb1);clear hb1;go_wp2_with fail
 go_ret
 exact ⟨rfl,B1.out⟩
theorem zq6 (p:Bs) (w:World) :
  Calls Tryz.prog 140 #[.string (str p)] w fun r w'=>r=.returned (.func (.func 181) #[] #[.pointer (some ⟨w.heap.size,0,none⟩)])∧Below w.heap.size w w'∧mA w' 181 #[.pointer (some ⟨w.heap.size,0,none⟩)] (fun e=>fP e.path p):=by
 have hmf:∀ (fn:Fn) (first cap:Array Value) (w:World),(Instr.makeFunc fn first cap).run Tryz.prog w=.ok (.func fn first cap) w:=fun _ _ _ _=>rfl
 go_enter Tryz.func140,Tryz.ntmps140;go_wp2_with fail
 go_ret
 refine ⟨rfl,aC _ _,enters_of Tryz.func181 (by kernel_rfl) rfl,fun e a c w' he _ _ hb=>?_⟩
 exact zc0 p w.heap.size e a c w' ((hb.cell (p:=⟨w.heap.size,0,none⟩) (by simp)).trans (by simp)) he
theorem zY (p:Bs) (b:Nat) (e:En) (a:Option Addr) (c:Nat) (w:World) (h:w.cell? ⟨b,0,none⟩=some (.string (str p))) (hl:e.path.length≤1048576) :
  Calls Tryz.prog 218 #[.agg #[.int .i64 e.size,.slice a e.chunks.length c,.string (str e.path),.int .i64 e.kind],.pointer (some ⟨b,0,none⟩)] w fun r w'=>r=.returned (.bool (eG e.path p))∧Below w.heap.size w w':=by
 have HB0:=aA (aC w (.cells #[.int .i64 e.size,.slice a e.chunks.length c,.string (str e.path),.int .i64 e.kind] 91));have hb:=World.block_lt_of_cell? w ⟨b,0,none⟩ h;have hbw:=(HB0.out.cell (p:=⟨b,0,none⟩) hb).trans h;have HC:=aA (fun (u:World)=>pW (str e.path) (str p) u (by rw[aN];omega))
 rw[aV,aV]at HC;generalize eG e.path p=Z at *;go_enter Tryz.func218,Tryz.ntmps218;go_wp2_with fail
 refine (HC.out _).mono ?_;rintro r w1 ⟨rfl,hb1⟩;have B1:=aA (aB HB0.out hb1);clear hb1;go_wp2_with fail
 go_ret
 exact ⟨rfl,B1.out⟩
theorem zp6 (p:Bs) (w:World) :
  Calls Tryz.prog 184 #[.string (str p)] w fun r w'=>r=.returned (.func (.func 218) #[] #[.pointer (some ⟨w.heap.size,0,none⟩)])∧Below w.heap.size w w'∧mA w' 218 #[.pointer (some ⟨w.heap.size,0,none⟩)] (fun e=>eG e.path p):=by
 have hmf:∀ (fn:Fn) (first cap:Array Value) (w:World),(Instr.makeFunc fn first cap).run Tryz.prog w=.ok (.func fn first cap) w:=fun _ _ _ _=>rfl
 go_enter Tryz.func184,Tryz.ntmps184;go_wp2_with fail
 go_ret
 refine ⟨rfl,aC _ _,enters_of Tryz.func218 (by kernel_rfl) rfl,fun e a c w' he _ _ hb=>?_⟩
 exact zY p w.heap.size e a c w' ((hb.cell (p:=⟨w.heap.size,0,none⟩) (by simp)).trans (by simp)) he
theorem zZ (p:Bs) (b:Nat) (e:En) (a:Option Addr) (c:Nat) (w:World) (h:w.cell? ⟨b,0,none⟩=some (.string (str p))) :
  Calls Tryz.prog 185 #[.agg #[.int .i64 e.size,.slice a e.chunks.length c,.string (str e.path),.int .i64 e.kind],.pointer (some ⟨b,0,none⟩)] w fun r w'=>r=.returned (.bool (decide (e.path=p)&&cG e.kind))∧Below w.heap.size w w':=by
 have HB0:=aA (aC w (.cells #[.int .i64 e.size,.slice a e.chunks.length c,.string (str e.path),.int .i64 e.kind] 91));have hb:=World.block_lt_of_cell? w ⟨b,0,none⟩ h;have hbw:=(HB0.out.cell (p:=⟨b,0,none⟩) hb).trans h;have HC:=aA (fun (u:World)=>uA (str e.path) e.kind e.size a e.chunks.length c u)
 generalize cG e.kind=Z at *;by_cases hp:e.path=p
 ·have hs1:=iD hp
  rw[decide_eq_true hp,Bool.true_and];clear hp;go_enter Tryz.func185,Tryz.ntmps185;go_wp2_with fail
  refine (HC.out _).mono ?_;rintro r w1 ⟨rfl,hb1⟩;have B1:=aA (aB HB0.out hb1);clear hb1;go_wp2_with fail
  cases Z
  ·go_ret
   exact ⟨rfl,B1.out⟩
  ·go_ret
   exact ⟨rfl,B1.out⟩
 ·have hs1:=jK hp
  rw[decide_eq_false hp,Bool.false_and];clear hp;go_enter Tryz.func185,Tryz.ntmps185;go_wp2_with fail
  go_ret
  exact ⟨rfl,HB0.out⟩
theorem wN (p:Bs) (w:World) :
  Calls Tryz.prog 142 #[.string (str p)] w fun r w'=>r=.returned (.func (.func 185) #[] #[.pointer (some ⟨w.heap.size,0,none⟩)])∧Below w.heap.size w w'∧mA w' 185 #[.pointer (some ⟨w.heap.size,0,none⟩)] (fun e=>decide (e.path=p)&&cG e.kind):=by
 have hmf:∀ (fn:Fn) (first cap:Array Value) (w:World),(Instr.makeFunc fn first cap).run Tryz.prog w=.ok (.func fn first cap) w:=fun _ _ _ _=>rfl
 go_enter Tryz.func142,Tryz.ntmps142;go_wp2_with fail
 go_ret
 refine ⟨rfl,aC _ _,enters_of Tryz.func185 (by kernel_rfl) rfl,fun e a c w' he _ _ hb=>?_⟩
 exact zZ p w.heap.size e a c w' ((hb.cell (p:=⟨w.heap.size,0,none⟩) (by simp)).trans (by simp))
theorem qS (a:Option Addr) (c n:Nat) (es:List En) (e:En) (x:Option Addr) (cc:Nat) (w:World) (h:RdI w a es) (hn:n=es.length) (hl:es.length≤1048575) (hF:Fit es) (he:aG e.path=0) (hx:aZ .i64 w x e.chunks) :
  Calls Tryz.prog 141 #[.slice a n c,.agg #[.int .i64 e.size,.slice x e.chunks.length cc,.string (str e.path),.int .i64 e.kind]] w fun r w'=>∃ g cv,r=.returned (.slice (some ⟨g,0,none⟩) (dK (bF es e.path true) e).length cv)∧RdI w' (some ⟨g,0,none⟩) (dK (bF es e.path true) e)∧Below w.heap.size w w':=by
 subst hn;have B0:=aA (aC w (.cells #[.int .i64 e.size,.slice x e.chunks.length cc,.string (str e.path),.int .i64 e.kind] 91));have F0:=aA (cP.new w (.int .i64 e.size) (.slice x e.chunks.length cc) (.string (str e.path)) (.int .i64 e.kind) 91);have HR:=aA (h.below B0.out);have HX:=aA (hx.below B0.out);have HS:=aA hF.small;have HRi:=aA (show fG (es.filter fun e'=>!(eG e'.path e.path)) from hF.rise.sublist List.filter_sublist)
 have HSf:=aA (show bJ (es.filter fun e'=>!(eG e'.path e.path)) from fun y hy=>hF.small y (List.mem_filter.1 hy).1)
 have HOF:=aA (zpd (p:=e.path) (fun y hy=>hF.path hy) he)
 have hfl:=List.length_filter_le (fun e':En=>!(eG e'.path e.path)) es
 clear h hx hF;go_enter Tryz.func141,Tryz.ntmps141;go_wp2_with fail
 generalize w.alloc (.cells #[.int .i64 e.size,.slice x e.chunks.length cc,.string (str e.path),.int .i64 e.kind] 91)=W0 at *;have KC:Hid (∀ w':World,Below W0.heap.size W0 w'→w'.cell? ⟨w.heap.size,0,none⟩=some (.int .i64 e.size)∧w'.cell? ⟨w.heap.size,1,none⟩=some (.slice x e.chunks.length cc)∧w'.cell? ⟨w.heap.size,2,none⟩=some (.string (str e.path))∧w'.cell? ⟨w.heap.size,3,none⟩=some (.int .i64 e.kind)):=aA (fun w' hb=>F0.out.below hb)
 obtain ⟨p0,p1,p2,p3⟩:=F0.out;go_region_held3 (fun w'=>w'.cell? ⟨w.heap.size,0,none⟩=some (.int .i64 e.size)∧w'.cell? ⟨w.heap.size,1,none⟩=some (.slice x e.chunks.length cc)∧w'.cell? ⟨w.heap.size,2,none⟩=some (.string (str e.path))∧w'.cell? ⟨w.heap.size,3,none⟩=some (.int .i64 e.kind)) (first | exact KC.out _ BB3.out | exact KC.out _ BB2.out | exact KC.out _ BB1.out | go_keep)
  ((
   first
   | (go_at_call 184;refine (zp6 e.path _).mono ?_;rintro r w1 ⟨rfl,hb1,hA⟩;have HA:=aA hA;have BB1:=aA ((Below.refl W0.heap.size W0).drew.trans hb1);clear hb1 hA)
   | (go_at_call 139;refine (lG a c es.length es _ _ _ _ (HR.out.below BB1.out) rfl (by omega) HS.out (HA.out.next (Below.refl _ _))).mono ?_;rintro r w2 ⟨av2,cv2,v2,rfl,hL2,hb2,hb2'⟩;have BB2:=aA (aB (aB BB1.out hb2) hb2');have RI2:=aA (hL2.rd hb2');clear hL2 hb2 hb2')
   | (go_at_call 183;refine (zt5 av2 cv2 _ _ e x cc _ RI2.out rfl (by omega) HSf.out HRi.out (HX.out.below BB2.out)).mono ?_;rintro r w3 ⟨g3,cv3,rfl,hri3,hb3⟩;have BB3:=aA (aB BB2.out hb3);have RI3:=aA hri3;clear hri3 hb3)))
 rw[HOF.out]at RI3 ⊢;go_wp2_with fail
 go_ret
 exact ⟨g3,cv3,rfl,RI3.out,aB B0.out BB3.out⟩
def sV (k:Int):TypeId:=if k=1 then 207 else if k=2 then 205 else if k=3 then 200 else 203
def zK (e:En) (x:Option Addr) (cc:Nat):Value:=.iface (sV e.kind) (.agg #[.int .i64 e.size,.slice x e.chunks.length cc,.string (str e.path),.int .i64 e.kind])
theorem zza (e:En) (x:Option Addr) (cc:Nat) (w:World) (hk:e.kind=1∨e.kind=2∨e.kind=3∨e.kind=4) :
  Calls Tryz.prog 92 #[.agg #[.int .i64 e.size,.slice x e.chunks.length cc,.string (str e.path),.int .i64 e.kind]] w fun r w'=>r=.returned (zK e x cc)∧Below w.heap.size w w':=by
 have HE:=aA (show zK e x cc=.iface (sV e.kind) (.agg #[.int .i64 e.size,.slice x e.chunks.length cc,.string (str e.path),.int .i64 e.kind]) from rfl)
 generalize zK e x cc=V at *;rcases hk with hk | hk | hk | hk
 all_goals
  rw[hk]at HE ⊢;go_enter Tryz.func92,Tryz.ntmps92;go_wp2_with fail
  go_ret
  exact ⟨by rw[HE.out];rfl,aC _ _⟩
theorem yI (es:List En) (p:Bs):(es.any fun e=>decide (e.path=p)&&cG e.kind)=cU es p:=rfl
theorem zkb (v:Value) (W:World):(Instr.typeAssert (.iface 207 v) 152 205 true).run Tryz.prog W=.ok (.tuple #[.agg #[.int .i64 0,.slice none 0 0,.string ⟨#[]⟩,.int .i64 0],.bool false]) W:=by kernel_rfl
theorem zy5 (v:Value) (W:World):(Instr.typeAssert (.iface 207 v) 152 200 true).run Tryz.prog W=.ok (.tuple #[.agg #[.int .i64 0,.slice none 0 0,.string ⟨#[]⟩,.int .i64 0],.bool false]) W:=by kernel_rfl
theorem zx2 (v:Value) (W:World):(Instr.typeAssert (.iface 207 v) 152 203 true).run Tryz.prog W=.ok (.tuple #[.agg #[.int .i64 0,.slice none 0 0,.string ⟨#[]⟩,.int .i64 0],.bool false]) W:=by kernel_rfl
theorem zpe (v:Value) (W:World):(Instr.typeAssert (.iface 205 v) 152 205 true).run Tryz.prog W=.ok (.tuple #[v,.bool true]) W:=by kernel_rfl
theorem zp8 (v:Value) (W:World):(Instr.typeAssert (.iface 205 v) 152 200 true).run Tryz.prog W=.ok (.tuple #[.agg #[.int .i64 0,.slice none 0 0,.string ⟨#[]⟩,.int .i64 0],.bool false]) W:=by kernel_rfl
theorem zx5 (v:Value) (W:World):(Instr.typeAssert (.iface 205 v) 152 203 true).run Tryz.prog W=.ok (.tuple #[.agg #[.int .i64 0,.slice none 0 0,.string ⟨#[]⟩,.int .i64 0],.bool false]) W:=by kernel_rfl
theorem zq8 (v:Value) (W:World):(Instr.typeAssert (.iface 200 v) 152 205 true).run Tryz.prog W=.ok (.tuple #[.agg #[.int .i64 0,.slice none 0 0,.string ⟨#[]⟩,.int .i64 0],.bool false]) W:=by kernel_rfl
theorem zy2 (v:Value) (W:World):(Instr.typeAssert (.iface 200 v) 152 200 true).run Tryz.prog W=.ok (.tuple #[v,.bool true]) W:=by kernel_rfl
theorem zc2 (v:Value) (W:World):(Instr.typeAssert (.iface 200 v) 152 203 true).run Tryz.prog W=.ok (.tuple #[.agg #[.int .i64 0,.slice none 0 0,.string ⟨#[]⟩,.int .i64 0],.bool false]) W:=by kernel_rfl
theorem zz5 (v:Value) (W:World):(Instr.typeAssert (.iface 203 v) 152 205 true).run Tryz.prog W=.ok (.tuple #[.agg #[.int .i64 0,.slice none 0 0,.string ⟨#[]⟩,.int .i64 0],.bool false]) W:=by kernel_rfl
theorem zb2 (v:Value) (W:World):(Instr.typeAssert (.iface 203 v) 152 200 true).run Tryz.prog W=.ok (.tuple #[.agg #[.int .i64 0,.slice none 0 0,.string ⟨#[]⟩,.int .i64 0],.bool false]) W:=by kernel_rfl
theorem zQ (v:Value) (W:World):(Instr.typeAssert (.iface 203 v) 152 203 true).run Tryz.prog W=.ok (.tuple #[v,.bool true]) W:=by kernel_rfl
theorem zvb (p:ByteArray) (k z:Int) (a:Option Addr) (n c:Nat) (w:World) :
  Calls Tryz.prog 301 #[.agg #[.int .i64 z,.slice a n c,.string p,.int .i64 k]] w fun r w'=>r=.returned (.agg #[.int .i64 z,.slice a n c,.string p,.int .i64 k])∧Below w.heap.size w w':=by
 obtain ⟨⟨q0,q1,q2,q3⟩,tf⟩:=mS.new (w.alloc (.cells #[.int .i64 z,.slice a n c,.string p,.int .i64 k] 91)) (.int .i64 0) (.slice none 0 0) (.string ⟨#[]⟩) (.int .i64 0) 91;go_enter Tryz.func301,Tryz.ntmps301;go_wp2_with fail
 exact bodyPost_ret (v:=.agg #[.int .i64 z,.slice a n c,.string p,.int .i64 k]) (by simp[results,Tryz.results301,go_sem]) rfl ⟨rfl,aB (aC _ _) (aC _ _)⟩
theorem zh4 (a:Option Addr) (c n:Nat) (es:List En) (e:En) (x:Option Addr) (cc:Nat) (w:World) (h:RdI w a es) (hn:n=es.length) (hl:es.length≤1048575) (hF:jH es) (he:aH e=0) (hx:aZ .i64 w x e.chunks) :
  Calls Tryz.prog 91 #[.slice a n c,zK e x cc] w fun r w'=>∃ av cv,r=.returned (.slice av (gG es e).length cv)∧RdI w' av (gG es e)∧Below w.heap.size w w':=by
 subst hn;have hp:=bO he;have HR:=aA h;have HX:=aA hx;have HF:=aA hF;have HS:=aA hF.fit.small;have HE:=aA (show zK e x cc=.iface (sV e.kind) (.agg #[.int .i64 e.size,.slice x e.chunks.length cc,.string (str e.path),.int .i64 e.kind]) from rfl)
 rw[HE.out];clear h hx hF HE;rcases kJ he with hk | hk | hk | hk
 ·-- a file
  have HO:=aA (show gG es e=dK (bF es e.path true) e from by simp[gG,hk,asT])
  have hst:sV e.kind=207:=by rw[hk];rfl
  have hw:=zy5;have ho:=zx2;have hd:=zkb;have hsz:∀ (h:91<Tryz.prog.types.size),(Tryz.prog.types[91]'h).size=4:=fun _=>by kernel_rfl
  have HP:=aA (fun (u:World) (hb:Below w.heap.size w u)=>qS a c es.length es e x cc u (HR.out.below hb) rfl hl HF.out.fit hp (HX.out.below hb))
  rw[hst,HO.out];rw[hk]at HP ⊢;generalize dK (bF es e.path true) e=OL at *;clear hk hst HO;go_enter Tryz.func91,Tryz.ntmps91;go_wp2_with fail
  refine (zvb (str e.path) 1 e.size x e.chunks.length cc _).mono ?_;rintro r w1 ⟨rfl,hb1⟩;have B1:=aA hb1;clear hb1;go_wp2_with fail
  refine (HP.out _ B1.out).mono ?_;rintro r w2 ⟨g,cv,rfl,hri,hb2⟩;have RI:=aA hri;have B2:=aA (aB B1.out hb2);clear hri hb2;go_wp2_with fail
  go_ret
  exact ⟨_,cv,rfl,RI.out,B2.out⟩
 ·-- a directory
  have hst:sV e.kind=205:=by rw[hk];rfl
  have hw:=zp8;have ho:=zx5;have hd:=zpe;have HP:=aA (fun (u:World) (hb:Below w.heap.size w u)=>qS a c es.length es e x cc u (HR.out.below hb) rfl hl HF.out.fit hp (HX.out.below hb))
  have HO:=aA (show gG es e=if cU es e.path=true then es else dK (bF es e.path true) e from by simp[gG,hk,asT])
  have A1:=aA (aC w (.cells #[.int .i64 e.size,.slice x e.chunks.length cc,.string (str e.path),.int .i64 2] 205));have F1:=aA (cP.new w (.int .i64 e.size) (.slice x e.chunks.length cc) (.string (str e.path)) (.int .i64 2) 205);cases hdir:cU es e.path
  ·rw[hdir,if_neg Bool.false_ne_true]at HO
   rw[hst,HO.out];rw[hk]at HP ⊢;generalize dK (bF es e.path true) e=OL at *;clear hk hst HO;go_enter Tryz.func91,Tryz.ntmps91;go_wp2_with fail
   generalize w.alloc (.cells #[.int .i64 e.size,.slice x e.chunks.length cc,.string (str e.path),.int .i64 2] 205)=W1 at *;refine (wN e.path _).mono ?_;rintro r w2 ⟨rfl,hb2,hA⟩;have HA:=aA hA;have B2:=aA (aB A1.out hb2);have F2:=aA (F1.out.below hb2);clear hA hb2;go_wp2_with fail
   refine (xH a c es.length es _ _ _ _ (HR.out.below B2.out) rfl (by omega) HS.out HA.out).mono ?_
   rw[yI,hdir];rintro r w3 ⟨rfl,hb3⟩;have B3:=aA (aB B2.out hb3);obtain ⟨q0,q1,q2,q3⟩:=F2.out.below hb3;clear hb3;go_wp2_with fail
   refine (HP.out _ B3.out).mono ?_;rintro r w4 ⟨g,cv,rfl,hri,hb4⟩;have RI:=aA hri;have B4:=aA (aB B3.out hb4);clear hri hb4;go_wp2_with fail
   go_ret
   exact ⟨_,cv,rfl,RI.out,B4.out⟩
  ·rw[hdir,if_pos rfl]at HO
   rw[hst,HO.out];rw[hk];clear hk hst HO;go_enter Tryz.func91,Tryz.ntmps91;go_wp2_with fail
   generalize w.alloc (.cells #[.int .i64 e.size,.slice x e.chunks.length cc,.string (str e.path),.int .i64 2] 205)=W1 at *;refine (wN e.path _).mono ?_;rintro r w2 ⟨rfl,hb2,hA⟩;have HA:=aA hA;have B2:=aA (aB A1.out hb2);clear hA hb2;go_wp2_with fail
   refine (xH a c es.length es _ _ _ _ (HR.out.below B2.out) rfl (by omega) HS.out HA.out).mono ?_
   rw[yI,hdir];rintro r w3 ⟨rfl,hb3⟩;have B3:=aA (aB B2.out hb3);clear hb3;go_wp2_with fail
   go_ret
   exact ⟨a,c,rfl,HR.out.below B3.out,B3.out⟩
 ·-- a white
  have hst:sV e.kind=200:=by rw[hk];rfl
  have hw:=zy2;have ho:=zc2;have hd:=zq8;have HO:=aA (show gG es e=es.filter fun y=>!(fP y.path e.path) from by rw[zf5 (fun y hy=>HF.out.fit.path hy) hp];simp[gG,hk])
  rw[hst,HO.out];rw[hk];clear hk hst HO;have A1:=aA (aC w (.cells #[.int .i64 e.size,.slice x e.chunks.length cc,.string (str e.path),.int .i64 3] 200));go_enter Tryz.func91,Tryz.ntmps91;go_wp2_with fail
  generalize w.alloc (.cells #[.int .i64 e.size,.slice x e.chunks.length cc,.string (str e.path),.int .i64 3] 200)=W1 at *;refine (zq6 e.path _).mono ?_;rintro r w2 ⟨rfl,hb2,hA⟩;have HA:=aA hA;have B2:=aA (aB A1.out hb2);clear hA hb2;go_wp2_with fail
  refine (lG a c es.length es _ _ _ _ (HR.out.below B2.out) rfl (by omega) HS.out HA.out).mono ?_
  rintro r w3 ⟨av3,cv3,v3,rfl,hL3,hb3,hb3'⟩;have B3:=aA (aB (aB B2.out hb3) hb3');have RI3:=aA (hL3.rd hb3');clear hL3 hb3 hb3';go_wp2_with fail
  go_ret
  exact ⟨av3,cv3,rfl,RI3.out,B3.out⟩
 ·-- kind 4
  have hst:sV e.kind=203:=by rw[hk];rfl
  have hw:=zb2;have ho:=zQ;have hd:=zz5;have HO:=aA (show gG es e=dK (bF es e.path true) (gE e 2) from by simp[gG,hk,asT])
  have HP:=aA (fun (u:World) (hb:Below w.heap.size w u)=>qS a c es.length es (gE e 2) x cc u (HR.out.below hb) rfl hl HF.out.fit hp (HX.out.below hb))
  have e0:(gE e 2).path=e.path:=rfl;have e1:(gE e 2).size=e.size:=rfl;have e2:(gE e 2).chunks=e.chunks:=rfl;have e3:(gE e 2).kind=2:=rfl;rw[e0,e1,e2,e3]at HP;rw[hst,HO.out];rw[hk];generalize dK (bF es e.path true) (gE e 2)=OL at *;clear hk hst HO e0 e1 e2 e3;have A1:=aA (aC w (.cells #[.int .i64 e.size,.slice x e.chunks.length cc,.string (str e.path),.int .i64 2] 203));go_enter Tryz.func91,Tryz.ntmps91;go_wp2_with fail
  refine (HP.out _ A1.out).mono ?_;rintro r w2 ⟨g,cv,rfl,hri,hb2⟩;have RI:=aA hri;have B2:=aA (aB A1.out hb2);clear hri hb2;go_wp2_with fail
  go_ret
  exact ⟨_,cv,rfl,RI.out,B2.out⟩
def gQ (t L:List En):Int:=if dG t=0 then (if aQ L=0 then (if 40<(cW t L).length then 2 else 0) else aQ L) else dG t
def kU (t L:List En):List En:=if gQ t L=0 then cW t L else []
theorem zuf {t L:List En} (h:dG t≠0):gQ t L=dG t∧kU t L=[]:=by
 have h1:gQ t L=dG t:=by rw[gQ,if_neg h]
 exact ⟨h1,by rw[kU,if_neg (by rw[h1];exact h)]⟩
theorem zhd {t L:List En} (h:dG t=0) (h2:aQ L≠0):gQ t L=aQ L∧kU t L=[]:=by
 have h1:gQ t L=aQ L:=by rw[gQ,if_pos h,if_neg h2]
 exact ⟨h1,by rw[kU,if_neg (by rw[h1];exact h2)]⟩
theorem xP {t L:List En} (h:dG t=0) (h2:aQ L=0) (h3:40<(cW t L).length):gQ t L=2∧kU t L=[]:=by
 have h1:gQ t L=2:=by rw[gQ,if_pos h,if_pos h2,if_pos h3]
 exact ⟨h1,by rw[kU,if_neg (by rw[h1];decide)]⟩
theorem zq4 {t L:List En} (h:dG t=0) (h2:aQ L=0) (h3:¬ 40<(cW t L).length):gQ t L=0∧kU t L=cW t L:=by
 have h1:gQ t L=0:=by rw[gQ,if_pos h,if_pos h2,if_neg h3]
 exact ⟨h1,by rw[kU,if_pos h1]⟩
theorem zma {t L:List En} {k:Nat} {e:En} (he:L[k]?=some e):cW t (L.take (k+1))=gG (cW t (L.take k)) e:=by
 rw[vG he];simp[cW,List.foldl_append]
theorem tX (a:Option Addr) (c n:Nat) (t:List En) (b:Option Addr) (d m:Nat) (L:List En) (w:World) (h:RdE w a t) (hn:n=t.length) (hl:t.length≤1000000) (hs:bJ t) (h2:RdE w b L) (hm:m=L.length) (hl2:L.length≤1000000) (hs2:bJ L) :
  Calls Tryz.prog 48 #[.slice a n c,.slice b m d] w (mT (gQ t L) 0 (kU t L) w):=by
 subst hn hm;have X0:=aA (dE.new w (.int .i64 0) (.int .i64 0) (.slice none 0 0) 45);have B0:=aA (aC w (.cells #[.int .i64 0,.int .i64 0,.slice none 0 0] 45));have HR:=aA h;have HS:=aA hs;have HR2:=aA h2;have HS2:=aA hs2;clear h hs h2 hs2;go_enter Tryz.func48,Tryz.ntmps48;go_wp2_with fail
 refine (vY a c t.length t _ (HR.out.below B0.out) rfl (by omega) HS.out).mono ?_
 rintro r w1 ⟨rfl,hb1⟩;have B1:=aA (aB B0.out hb1);have X1:=aA (X0.out.below hb1);have hb0:w.heap.size<w1.heap.size:=X1.out.lt;clear hb1 X0 B0;by_cases hz:dG t=0
 ·have HZ:=aA hz
  rw[hz];clear hz;go_wp2_with fail
  refine (gK b d L.length L _ (HR2.out.below B1.out) rfl (by omega) HS2.out).mono ?_
  rintro r w2 ⟨rfl,hb2⟩;have B2:=aA (aB B1.out hb2);have X2:=aA (X1.out.below hb2);have hs12:=hb2.size;clear hb2 X1;by_cases hz2:aQ L=0
  ·have HZ2:=aA hz2
   have HRT:=aA (mM.1 (zh5.1 HZ.out));have HRL:=aA (iV.1 (dM.1 hz2));have hl40:=HRT.out.2;have hl12:=HRL.out.2;rw[hz2];clear hz2;go_wp2_with fail
   refine (zN a c t.length t _ (HR.out.below B2.out) rfl (by omega)).mono ?_
   rintro r w3 ⟨av,cv,rfl,hL,hb3⟩;have RI:=aA (hL.rd hb3);have B3:=aA (aB B2.out hb3);have BX3:=aA hb3;clear hL hb3;go_wp2_with fail
   go_loopw [7,26] (fun v i wr=>∃ (k:Nat) (va:Option Addr) (vc:Nat),k≤L.length∧i=.int .i64 k∧v=.slice va (cW t (L.take k)).length vc∧Hid (RdI wr va (cW t (L.take k)))∧Hid (Below w2.heap.size w2 wr)) (fun _ i _=>L.length - (intOf i).toNat)
   case atStart=>exact ⟨0,av,cv,Nat.zero_le _,rfl,rfl,aA RI.out,aA BX3.out⟩
   case round =>
    obtain ⟨k,va,vc,hk,rfl,rfl,HI,HW⟩:=hrel;have hml:=zf1 (L.take k) t;rw[List.length_take]at hml;by_cases hlt:k<L.length
    ·obtain ⟨bb,off,e,x,cc,rfl,hbb,he,c0,c1,c2,c3,hr⟩:=(HR2.out.below (aB B2.out HW.out)).at hlt
     have hee:=HRL.out.1.ent e (List.mem_of_getElem? he);have HX:=aA he;have HRc:=aA hr;have HFk:=aA (oQ HRT.out.1 HRL.out.1 k hk).1;have HN:=aA (zma (t:=t) he);clear he hr;have BA:=aA (aC wr (.cells #[.string (str e.path),.int .i64 e.kind,.int .i64 e.size,.slice x e.chunks.length cc] 87));generalize cW t (L.take k)=M at *;go_wp2_with fail
     refine (jS (str e.path) e.kind e.size x e.chunks.length cc _).mono ?_;rintro r w4 ⟨rfl,hb4⟩;have BB4:=aA (aB BA.out hb4);clear hb4 c0 c1 c2 c3;go_wp2_with fail
     refine (zza e x cc _ (kJ hee)).mono ?_;rintro r w5 ⟨rfl,hb5⟩;have BB5:=aA (aB BB4.out hb5);clear hb5;go_wp2_with fail
     refine (zh4 va vc M.length M e x cc _ (HI.out.below BB5.out) rfl (by omega) HFk.out hee (HRc.out.below BB5.out)).mono ?_
     rintro r w6 ⟨av6,cv6,rfl,hri6,hb6⟩;have BB6:=aA (aB BB5.out hb6);have RI6:=aA hri6;clear hri6 hb6;rw[←HN.out]at RI6 ⊢;go_wp2_with fail
     go_roundw
     case rel=>exact ⟨k+1,av6,cv6,by omega,by go_num,rfl,RI6,aA (aB HW.out BB6.out)⟩
     case measure=>simp[intOf];omega
    ·have HE:=aA (show L.take k=L from List.take_of_length_le (by omega))
     rw[HE.out]at HI hml ⊢;clear HE;have HFl:=aA (pZ HRT.out.1 HRL.out.1);have HSm:=aA HFl.out.fit.small;by_cases h40:40<(cW t L).length
     ·have HCC:=aA (xP HZ.out HZ2.out h40)
      have hg40:(40:Int)<((cW t L).length:Int):=by omega
      obtain ⟨⟨t0,t1,t2⟩,t3,t4,t5⟩:=X2.out.below HW.out;go_wp2_with fail
      exact bodyPost_ret (v:=.agg #[.int .i64 2,.int .i64 0,.slice none 0 0]) (by simp[results,Tryz.results48,go_sem,t0,t1,t2]) rfl (by rw[HCC.out.1,HCC.out.2];exact mT.bad (Nat.le_refl _) (aB B2.out HW.out))
     ·have HCC:=aA (zq4 HZ.out HZ2.out h40)
      have hg40:¬ (40:Int)<((cW t L).length:Int):=by omega
      generalize cW t L=M at *;go_wp2_with fail
      refine (zg2 _ _ _ M _ HI.out rfl (by omega) HSm.out).mono ?_
      rintro r w6 ⟨av6,cv6,rfl,hG6,hb6⟩;have BB6:=aA (aB HW.out hb6);obtain ⟨⟨t0,t1,t2⟩,t3,t4,t5⟩:=X2.out.below BB6.out;have G6:=aA hG6;have hs5:=HW.out.size;have B6:=aA (aB B2.out BB6.out);clear hG6 hb6;go_wp2_with fail
      exact bodyPost_ret (v:=.agg #[.int .i64 0,.int .i64 0,.slice av6 M.length cv6]) (by simp[results,Tryz.results48,go_sem,t0,t1,t2]) rfl (by rw[HCC.out.1,HCC.out.2];exact mT.of (by omega) (Nat.le_refl _) rfl G6.out B6.out)
  ·have HCC:=aA (zhd HZ.out hz2)
   generalize aQ L=F at *;have hz3:(F != 0)=true:=by simp;exact hz2
   clear hz2;obtain ⟨⟨t0,t1,t2⟩,t3,t4,t5⟩:=X2.out;go_wp2_with fail
   exact bodyPost_ret (v:=.agg #[.int .i64 F,.int .i64 0,.slice none 0 0]) (by simp[results,Tryz.results48,go_sem,t0,t1,t2]) rfl (by rw[HCC.out.1,HCC.out.2];exact mT.bad (Nat.le_refl _) B2.out)
 ·have HCC:=aA (zuf (L:=L) hz)
  generalize dG t=F at *;have hz3:(F != 0)=true:=by simp;exact hz
  clear hz;obtain ⟨⟨t0,t1,t2⟩,t3,t4,t5⟩:=X1.out;go_wp2_with fail
  exact bodyPost_ret (v:=.agg #[.int .i64 F,.int .i64 0,.slice none 0 0]) (by simp[results,Tryz.results48,go_sem,t0,t1,t2]) rfl (by rw[HCC.out.1,HCC.out.2];exact mT.bad (Nat.le_refl _) B1.out)
end Go.Proofs.YtgaeikgoknoamaaGreat
