/-
  Texts put together: SeeF SeeG SeeH OvrP SnpR SeeI SeeK SeeO.
-/
import Derived.Test.YtolnlfnndnpiiaaGreatKSnaps9
import Derived.Test.YtolnlfnndnpiiaaGreatKSnaps6
import Derived.Test.YtolnlfnndnpiiaaGreatKSnaps5
import Derived.Test.YtolnlfnndnpiiaaGreatKSnaps8
import Derived.Shelf.SlMaps.Clone
import Derived.Lib.SlMapFilter
import Derived.RangeFuncGives
import Derived.Shelf.AbstractIn
import Derived.RangeFuncSeq
import Derived.Sort.MapsRangeIn
import Derived.OwnWalkIn
import Derived.TacticsInMore
import Derived.RegionIn
import Derived.LoopNIn
import Derived.LoopIn
import Derived.Maps.AppendAt
import Derived.Shelf.Abstract
set_option linter.unusedVariables false
set_option maxHeartbeats 6400000
set_option maxRecDepth 100000
namespace Go.Proofs.YtolnlfnndnpiiaaGreat
open Go.RowKit Go.Maps
attribute [local go_sem ↓] Go.wp_at_zero Go.wp_at_succ
theorem zn2 (b N:Nat) (p:Bs) (S:Nat→Bs→Option En) (w0 w:World) (h:eL w0 w b N S) (hp:p.length≤1048576) :
  Calls Tryz.prog 154 #[.map (some b),.string (str p)] w (zxi (dW S p 4) p w):=by
 have X0:=aA (Box.new w (.int .i64 0) (.string ⟨#[]⟩) 170);have B0:=aA (aC w (.cells #[.int .i64 0,.string ⟨#[]⟩] 170));have M0:=aA (h.below B0.out);clear h;go_enter Tryz.func154,Tryz.ntmps154;go_wp2_with fail
 generalize w.alloc (.cells #[.int .i64 0,.string ⟨#[]⟩] 170)=W0 at *;go_loopw [6] (fun i wr=>∃ n:Nat,n≤4∧i=.int .i64 ((n:Int) - 1)∧Hid (dW S p 4=dW S p n)∧Hid (Below W0.heap.size W0 wr)) (fun i _=>(intOf i+1).toNat)
 case atStart=>exact ⟨4,Nat.le_refl _,rfl,aA rfl,aA (Below.refl _ _)⟩
 case round =>
  obtain ⟨n,hn,hi,HV,HW⟩:=hrel;cases n with
  | zero =>
   rw[show ((0:Nat):Int) - 1 = -1 from rfl]at hi
   subst hi;have HN:=aA (show dW S p 4=none from HV.out)
   obtain ⟨⟨t0,t1⟩,t2,t3⟩:=X0.out.below HW.out;clear HV;go_wp2_with fail
   refine bodyPost_ret (v:=.tuple #[.agg #[.int .i64 0,.string ⟨#[]⟩],.bool false]) (by simp[results,Tryz.results154,go_sem,t0,t1]) rfl ?_
   rw[HN.out];exact ⟨⟨0,⟨#[]⟩,rfl⟩,((aB B0.out HW.out).setCell (p:=⟨w.heap.size,0,none⟩) (Nat.le_refl _) _).setCell (p:=⟨w.heap.size,1,none⟩) (Nat.le_refl _) _⟩
  | succ m =>
   rw[show ((m+1:Nat):Int) - 1=(m:Int) from by omega]at hi
   subst hi;have hm0:(0:Int)≤(m:Int):=by omega
   have MW:=aA (M0.out.below HW.out);have BS:=aA (aC wr (.cells #[.int .i64 m,.string (str p)] 170));have MS:=aA (MW.out.below BS.out);cases hS:S m p with
   | none =>
    have HL:=aA (MS.out.no (i:=m) (p:=p) (by omega) hp hS)
    have BI:=aA (aB BS.out (aC _ (.cells #[.int .i64 0,.slice none 0 0,.string ⟨#[]⟩,.int .i64 0] 88)));have HHA:=aA (zd3 b N m p S w0 _ (MW.out.below BI.out) (by omega) hp)
    have hm1:IntKind.i64.wrap ((m:Int) - 1)=(m:Int) - 1:=by simp[IntKind.wrap,IntKind.signed,IntKind.bits];omega
    cases hh:(bG p).any fun q=>(S m q).any fun e=>!decide (e.kind=2)
    ·have HN:=aA (HV.out.trans (qE hS hh))
     rw[hh]at HHA;clear hh hS;go_wp2_with (at_lookup;refine iQ rfl _ _ 167 true rfl _ _ _ rfl rfl HL.out ?_)
     refine HHA.out.mono ?_;rintro r w2 ⟨rfl,hb2⟩;have B2:=aA (aB (aB HW.out BI.out) hb2);clear hb2;go_wp2_with fail
     go_roundw
     case rel=>exact ⟨m,by omega,by first | rfl | go_num,HN,B2⟩
     case measure=>simp[intOf] <;> omega
    ·have HN:=aA (HV.out.trans (vJ hS hh))
     rw[hh]at HHA;clear hh hS;go_wp2_with (at_lookup;refine iQ rfl _ _ 167 true rfl _ _ _ rfl rfl HL.out ?_)
     refine HHA.out.mono ?_;rintro r w2 ⟨rfl,hb2⟩;have B2:=aA (aB (aB HW.out BI.out) hb2);obtain ⟨⟨t0,t1⟩,t2,t3⟩:=X0.out.below B2.out;clear hb2;go_wp2_with fail
     refine bodyPost_ret (v:=.tuple #[.agg #[.int .i64 0,.string ⟨#[]⟩],.bool false]) (by simp[results,Tryz.results154,go_sem,t0,t1]) rfl ?_
     rw[HN.out];exact ⟨⟨0,⟨#[]⟩,rfl⟩,((aB B0.out B2.out).setCell (p:=⟨w.heap.size,0,none⟩) (Nat.le_refl _) _).setCell (p:=⟨w.heap.size,1,none⟩) (Nat.le_refl _) _⟩
   | some e =>
    obtain ⟨x,cc,hl,-,-⟩:=MS.out.yes (i:=m) (p:=p) (by omega) hp hS
    have HL:=aA hl;have HN:=aA (HV.out.trans (rU hS));unfold itV at HL;clear hl hS;have BI:=aA (aB BS.out (aC _ (.cells #[.int .i64 e.size,.slice x e.chunks.length cc,.string (str e.path),.int .i64 e.kind] 88)));have B2:=aA (aB B0.out (aB HW.out BI.out));obtain ⟨⟨t0,t1⟩,t2,t3⟩:=(X0.out.below HW.out).below BI.out;by_cases hk:e.kind=3
    ·rw[if_pos hk]at HN
     have hk':(e.kind != 3)=false:=by simp[hk]
     clear hk;go_wp2_with (at_lookup;refine iQ rfl _ _ 167 true rfl _ _ _ rfl rfl HL.out ?_)
     go_region
     all_goals
      go_wp2_with fail
      refine bodyPost_ret (v:=.tuple #[.agg #[.int .i64 m,.string (str p)],.bool false]) (by simp[results,Tryz.results154,go_sem,t0,t1]) rfl ?_
      rw[HN.out];exact ⟨⟨m,str p,rfl⟩,(B2.out.drew.setCell (p:=⟨w.heap.size,0,none⟩) (Nat.le_refl _) _).setCell (p:=⟨w.heap.size,1,none⟩) (Nat.le_refl _) _⟩
    ·rw[if_neg hk]at HN
     have hk':(e.kind != 3)=true:=by simpa using hk
     clear hk;go_wp2_with (at_lookup;refine iQ rfl _ _ 167 true rfl _ _ _ rfl rfl HL.out ?_)
     go_region
     all_goals
      go_wp2_with fail
      refine bodyPost_ret (v:=.tuple #[.agg #[.int .i64 m,.string (str p)],.bool true]) (by simp[results,Tryz.results154,go_sem,t0,t1]) rfl ?_
      rw[HN.out];exact ⟨rfl,(B2.out.drew.setCell (p:=⟨w.heap.size,0,none⟩) (Nat.le_refl _) _).setCell (p:=⟨w.heap.size,1,none⟩) (Nat.le_refl _) _⟩
def bJ (ls:List (List En)) (p:Bs):Int:=if bV ls=0 then aF p else bV ls
theorem jD {ls:List (List En)} {p:Bs} (h:bJ ls p=0):ls.length≤4∧(∀ es∈ls,aU es)∧aF p=0:=by
 unfold bJ at h;split at h
 ·rename_i h1
  exact ⟨(dR.1 h1).1,(dR.1 h1).2,h⟩
 ·rename_i h1;exact absurd h h1
theorem oA (a:Option Addr) (c n:Nat) (ls:List (List En)) (p:Bs) (w:World) (h:RdL w a ls) (hn:n=ls.length) (hl:ls.length≤1048576) (hs:eJ ls) (hp:p.length≤1048576) :
  Calls Tryz.prog 103 #[.slice a n c,.string (str p)] w fun r w'=>r=.returned (.int .i64 (bJ ls p))∧Below w.heap.size w w':=by
 subst hn;have hsz:=aK p;have HLF:=aA (lH a c ls.length ls w h rfl hl hs);have HPF:Hid (∀ w',Calls Tryz.prog 144 #[.string (str p)] w' fun e w2=>e=.returned (.int .i64 (aF p))∧Below w'.heap.size w' w2):=aA (fun w'=>by have h1:=fS (str p) w' (by omega);rw[aT]at h1;exact h1)
 clear h hs;by_cases hz:bV ls=0
 ·have HZ:=aA (show bJ ls p=aF p by simp[bJ,hz])
  rw[hz]at HLF;clear hz;generalize bJ ls p=V at *;generalize aF p=F at *;go_enter Tryz.func103,Tryz.ntmps103;go_wp2_with fail
  refine HLF.out.mono ?_;rintro r w1 ⟨rfl,hb1⟩;have B1:=aA hb1;clear hb1;go_wp2_with fail
  refine (HPF.out w1).mono ?_;rintro r w2 ⟨rfl,hb2⟩;have B2:=aA (aB B1.out hb2);clear hb2;go_wp2_with fail
  go_ret
  exact ⟨by rw[HZ.out];rfl,B2.out⟩
 ·have HZ:=aA (show bJ ls p=bV ls by simp[bJ,hz])
  generalize bJ ls p=V at *;generalize bV ls=F at *;have hz2:(F != 0)=true:=by simp;exact hz
  clear hz;go_enter Tryz.func103,Tryz.ntmps103;go_wp2_with fail
  refine HLF.out.mono ?_;rintro r w1 ⟨rfl,hb1⟩;have B1:=aA hb1;clear hb1;go_wp2_with fail
  go_ret
  exact ⟨by rw[HZ.out];rfl,B1.out⟩
theorem zoe (e:En) (x:Option Addr) (cc:Nat) (w:World) (hk:e.kind=1∨e.kind=2∨e.kind=3∨e.kind=4) :
  Calls Tryz.prog 155 #[itV e x cc] w fun r w'=>r=.returned (itV (asT e) x cc)∧Below w.heap.size w w':=by
 unfold itV;have B0:=aA (aB (aC w (.cells #[.int .i64 e.size,.slice x e.chunks.length cc,.string (str e.path),.int .i64 e.kind] 88)) (aC _ (.cells #[.int .i64 0,.slice none 0 0,.string ⟨#[]⟩,.int .i64 0] 88)));have F0:=aA ((mI.new w (.int .i64 e.size) (.slice x e.chunks.length cc) (.string (str e.path)) (.int .i64 e.kind) 88).below (aC _ (.cells #[.int .i64 0,.slice none 0 0,.string ⟨#[]⟩,.int .i64 0] 88)));have G0:=aA (mI.new (w.alloc (.cells #[.int .i64 e.size,.slice x e.chunks.length cc,.string (str e.path),.int .i64 e.kind] 88)) (.int .i64 0) (.slice none 0 0) (.string ⟨#[]⟩) (.int .i64 0) 88)
 have hsz:(w.alloc (.cells #[.int .i64 e.size,.slice x e.chunks.length cc,.string (str e.path),.int .i64 e.kind] 88)).heap.size=w.heap.size+1:=by simp
 rw[hsz]at G0;have HT:=aA (show bZ e.kind=true→asT e = { e with kind:=2 } from fun hd=>by
  rcases hk with h | h | h | h <;> rw[h]at hd <;> simp[bZ]at hd
  ·cases e;simp at h;subst h;simp[asT]
  ·simp[asT,h,gX])
 have HT2:=aA (show bZ e.kind=false→asT e=e from fun hd=>by
  rcases hk with h | h | h | h <;> rw[h]at hd <;> simp[bZ]at hd
  ·simp[asT,h]
  ·simp[asT,h])
 clear hsz hk;obtain ⟨⟨f0,f1,f2,f3⟩,-⟩:=F0.out;go_enter Tryz.func155,Tryz.ntmps155;go_wp2_with fail
 generalize (w.alloc (.cells #[.int .i64 e.size,.slice x e.chunks.length cc,.string (str e.path),.int .i64 e.kind] 88)).alloc (.cells #[.int .i64 0,.slice none 0 0,.string ⟨#[]⟩,.int .i64 0] 88)=W0 at *;refine (lV _ _ _ _ _ _ _).mono ?_;rintro r w1 ⟨rfl,hb1⟩;have B1:=aA (aB B0.out hb1);clear f0 f1 f2 f3;obtain ⟨⟨f0,f1,f2,f3⟩,ff⟩:=F0.out.below hb1;obtain ⟨⟨g0,g1,g2,g3⟩,gf⟩:=G0.out.below hb1;have ff3:=ff 3;have gf0:=gf 0;have gf1:=gf 1;have gf2:=gf 2;have gf3:=gf 3;clear hb1 ff gf;have BF:=aA (show ∀ y0 y1 y2 y3:Value,∀ W:World,Below w.heap.size w W→Below w.heap.size w ((((W.setCell ⟨w.heap.size+1,0,none⟩ y0).setCell ⟨w.heap.size+1,1,none⟩ y1).setCell ⟨w.heap.size+1,2,none⟩ y2).setCell ⟨w.heap.size+1,3,none⟩ y3) from fun y0 y1 y2 y3 W hb=>(((hb.setCell (p:=⟨w.heap.size+1,0,none⟩) (by simp) y0).setCell (p:=⟨w.heap.size+1,1,none⟩) (by simp) y1).setCell (p:=⟨w.heap.size+1,2,none⟩) (by simp) y2).setCell (p:=⟨w.heap.size+1,3,none⟩) (by simp) y3)
 cases hd:bZ e.kind
 ·have HE:=aA (HT2.out hd)
  clear hd HT HT2;go_wp2_with fail
  refine bodyPost_ret (v:=.agg #[.int .i64 e.size,.slice x e.chunks.length cc,.string (str e.path),.int .i64 e.kind]) (by simp[results,Tryz.results155,go_sem,g0,g1,g2,g3]) rfl ⟨by rw[HE.out],?_⟩
  exact BF.out _ _ _ _ _ B1.out
 ·have HE:=aA (HT.out hd)
  clear hd HT HT2;go_wp2_with fail
  refine bodyPost_ret (v:=.agg #[.int .i64 e.size,.slice x e.chunks.length cc,.string (str e.path),.int .i64 2]) (by simp[results,Tryz.results155,go_sem,g0,g1,g2,g3]) rfl ⟨by rw[HE.out],?_⟩
  exact BF.out _ _ _ _ _ (B1.out.setCell (p:=⟨w.heap.size,3,none⟩) (Nat.le_refl _) _)
def gY (ls:List (List En)) (p:Bs):Option Nat:=dW (dM ls) p 4
theorem kU {S:Nat→Bs→Option En} {p:Bs}:∀ {n k:Nat},dW S p n=some k→k<n∧∃ e,S k p=some e∧e.kind≠3
 | 0,k,h=>by cases h
 | n+1,k,h=>by
  cases hS:S n p with
  | some e =>
   rw[rU hS]at h;by_cases hk:e.kind=3
   ·rw[if_pos hk]at h;cases h
   ·rw[if_neg hk]at h
    cases h
    exact ⟨by omega,e,hS,hk⟩
  | none =>
   cases hh:(bG p).any fun q=>(S n q).any fun e=>!decide (e.kind=2)
   ·rw[qE hS hh]at h
    obtain ⟨h1,h2⟩:=kU h;exact ⟨by omega,h2⟩
   ·rw[vJ hS hh]at h;cases h
def fB (ls:List (List En)) (p:Bs):Int:=if bJ ls p=0 then (if (gY ls p).isSome then 0 else 4) else bJ ls p
def zn3 (ls:List (List En)) (p:Bs):Int:=if bJ ls p=0 then (match gY ls p with | some n=>(n:Int) | none=>0) else 0
def oF (ls:List (List En)) (p:Bs):List En:=if bJ ls p=0 then (match gY ls p with | some n=>((dM ls n p).map asT).toList | none=>[]) else []
theorem zzm {ls:List (List En)} {p:Bs} (h:bJ ls p≠0):fB ls p=bJ ls p∧zn3 ls p=0∧oF ls p=[]:=by simp[fB,zn3,oF,h]
theorem zq8 {ls:List (List En)} {p:Bs} (h:bJ ls p=0) (hn:gY ls p=none):fB ls p=4∧zn3 ls p=0∧oF ls p=[]:=by simp[fB,zn3,oF,h,hn]
theorem zr8 {ls:List (List En)} {p:Bs} {n:Nat} {e:En} (h:bJ ls p=0) (hn:gY ls p=some n) (he:dM ls n p=some e):fB ls p=0∧zn3 ls p=n∧oF ls p=[asT e]:=by simp[fB,zn3,oF,h,hn,he]
theorem kG {ls:List (List En)} {n:Nat} {p:Bs} {e:En} (h:dM ls n p=some e):∃ es∈ls,e∈es∧e.path=p:=by
 unfold dM at h;cases hx:ls[n]? with
 | none=>rw[hx]at h;cases h
 | some es =>
  rw[hx]at h;obtain ⟨h1,h2⟩:=eZ (show aG es p=some e from h)
  exact ⟨es,List.mem_of_getElem? hx,h1,h2⟩
theorem xN {ls:List (List En)} (h:∀ es∈ls,aU es) (hs:eJ ls):∀ es∈ls,dY es∧es.length≤12∧aV es:=fun es he=>⟨(h es he).rise,(h es he).len,(hs es he).2⟩
end Go.Proofs.YtolnlfnndnpiiaaGreat
namespace Go.Proofs.YtolnlfnndnpiiaaGreat
theorem zyn {L:List En} (h:Fit L) {q:Bs} (hq:aF q=0):((bG q).any fun u=>(aG L u).any fun e=>!decide (e.kind=2))=hid L q:=by
 rw[Bool.eq_iff_iff,zom,List.any_eq_true];constructor
 ·rintro ⟨u,hu,hr⟩
  cases hf:aG L u with
  | none=>rw[hf]at hr;cases hr
  | some e =>
   rw[hf]at hr;obtain ⟨he,rfl⟩:=eZ hf;have hb:fD q e.path=true:=by simpa [fD] using hu
   rw[lU hq]at hb;exact ⟨e,he,by simpa using hr,(of_decide_eq_true hb).2⟩
 ·rintro ⟨e,he,hk,hb⟩
  refine ⟨e.path,?_,by rw[eN h.rise he];simpa using hk⟩
  have hb:fD q e.path=true:=by rw[lU hq];exact decide_eq_true ⟨h.path he,hb⟩
  simpa [fD] using hb
def aJ (ls:List (List En)):List En:=ls.foldl dA []
theorem kP (D:List (List En)) (L:List En):aJ (D ++ [L])=dA (aJ D) L:=by simp[aJ,List.foldl_append]
def zye (ls:List (List En)) (q:Bs) (n:Nat):Option En:=(dW (dM ls) q n).bind fun k=>(dM ls k q).map asT
theorem uC {ls:List (List En)} (h:∀ es∈ls,Fit es):∀ n,n≤ls.length→iW (aJ (ls.take n))∧∀ q,aF q=0→aG (aJ (ls.take n)) q=zye ls q n
 | 0,_=>⟨by simpa [aJ] using zoj,fun q _=>by simp[aJ,zye,dW,aG]⟩
 | n+1,hn=>by
  obtain ⟨ih1,ih2⟩:=uC h n (by omega)
  have hL:ls[n]?=some (ls[n]'(by omega)):=List.getElem?_eq_getElem (by omega)
  have hm:=List.mem_of_getElem? hL;generalize ls[n]'(by omega)=L at *
  have ht:ls.take (n+1)=ls.take n ++ [L]:=by rw[List.take_add_one,hL];rfl
  rw[ht,kP];have hF:=h L hm;refine ⟨qA ih1 hF,fun q hq=>?_⟩
  rw[uY ih1 hF];have hS:∀ u,dM ls n u=aG L u:=fun u=>by simp[dM,hL]
  unfold zye;cases hf:aG L q with
  | some e =>
   rw[mB hf,rU (by rw[hS];exact hf)]
   by_cases h3:e.kind=3
   ·simp[h3]
   ·simp[h3,hS,hf]
  | none =>
   rw[xT hf];have hu:=zyn hF hq;cases hh:hid L q
   ·rw[qE (by rw[hS];exact hf) (by simp only[hS];rw[hu,hh]),if_neg (by simp),ih2 q hq]
    rfl
   ·rw[vJ (by rw[hS];exact hf) (by simp only[hS];rw[hu,hh])]
    simp
theorem sP {ls:List (List En)} {q:Bs}:∀ {n:Nat},ls.length≤n→dW (dM ls) q n=dW (dM ls) q ls.length
 | 0,h=>by rw[Nat.le_zero.1 h]
 | n+1,h=>by
  by_cases h1:ls.length=n+1
  ·rw[h1]
  ·have hS:∀ u,dM ls n u=none:=fun u=>by
    have:ls[n]?=none:=List.getElem?_eq_none (by omega)
    simp[dM,this]
   rw[qE (hS q) (by rw[List.any_eq_false];intro u _;rw[hS u];simp)]
   exact sP (by omega)
def xS (ls:List (List En)) (q:Bs):Option En:=(gY ls q).bind fun k=>(dM ls k q).map asT
theorem oT {ls:List (List En)} (h:∀ es∈ls,Fit es):iW (aJ ls):=by
 have:=(uC h ls.length (Nat.le_refl _)).1;rwa [List.take_length]at this
theorem rE {ls:List (List En)} (h:∀ es∈ls,Fit es) (h4:ls.length≤4) {q:Bs} (hq:aF q=0):aG (aJ ls) q=xS ls q:=by
 have:=(uC h ls.length (Nat.le_refl _)).2 q hq;rw[List.take_length]at this;rw[this];unfold zye xS gY;rw[sP h4]
theorem gA {ls:List (List En)} (h:∀ es∈ls,aU es):∀ es∈ls,Fit es:=fun es he=>(fU.1 (h es he)).1
theorem pB {ls:List (List En)} {p:Bs} (h:bJ ls p=0):fB ls p=(if (aG (aJ ls) p).isSome then 0 else 4)∧oF ls p=(aG (aJ ls) p).toList:=by
 obtain ⟨h4,hR,hp⟩:=jD h;rw[rE (gA hR) h4 hp];cases hs:gY ls p with
 | none =>
  obtain ⟨h1,-,h2⟩:=zq8 h hs;rw[h1,h2];simp[xS,hs]
 | some k =>
  obtain ⟨-,e,he,-⟩:=kU (show dW (dM ls) p 4=some k from hs)
  obtain ⟨h1,-,h2⟩:=zr8 h hs he;rw[h1,h2];simp[xS,hs,he]
theorem zbj {ls:List (List En)} {rs:List En} (h:∀ es∈ls,aU es) (h4:ls.length≤4) (hr:dY rs) (hm:∀ e,e∈rs↔∃ k,gY ls e.path=some k∧dM ls k e.path=some e):rs.map asT=aJ ls:=by
 have hF:=gA h;have hr2:dY (rs.map asT):=by
  unfold dY at hr ⊢;rw[List.pairwise_map];exact hr.imp (fun {a b} hab=>by rw[gH,gH];exact hab)
 have hfa:=oT hF;have hpath:∀ e∈rs,aF e.path=0:=fun e he=>by
  obtain ⟨k,-,h2⟩:=(hm e).1 he;obtain ⟨es,hes,hee,-⟩:=kG h2;exact (hF es hes).path hee
 refine vG hr2 hfa.fit.rise (fun q=>?_)
 by_cases hq:aF q=0
 ·rw[rE hF h4 hq]
  unfold xS;cases hs:gY ls q with
  | none =>
   refine jR (fun x hx=>?_)
   obtain ⟨e,he,rfl⟩:=List.mem_map.1 hx;obtain ⟨k,h1,-⟩:=(hm e).1 he;rw[gH];intro e1;rw[e1,hs]at h1;cases h1
  | some k =>
   obtain ⟨-,e,he,-⟩:=kU (show dW (dM ls) q 4=some k from hs)
   obtain ⟨-,-,-,hpe⟩:=kG he;have hmem:e∈rs:=(hm e).2 ⟨k,by rw[hpe];exact hs,by rw[hpe];exact he⟩
   have h1:=eN hr2 (List.mem_map.2 ⟨e,hmem,rfl⟩);rw[gH,hpe]at h1;rw[h1];simp[he]
 ·rw[jR,jR]
  ·intro x hx e1;rw[←e1]at hq;exact hq (hfa.fit.path hx)
  ·intro x hx e1
   obtain ⟨e,he,rfl⟩:=List.mem_map.1 hx;rw[gH]at e1;rw[←e1]at hq;exact hq (hpath e he)
end Go.Proofs.YtolnlfnndnpiiaaGreat
namespace Go.Proofs.YtolnlfnndnpiiaaGreat
open Go.RowKit
def RdS (w:World) (a:Option Addr) (l:List Sn):Prop :=
 l≠[]→∃ (b off:Nat) (A:Nat→Option Addr) (C:Nat→Nat),a=some ⟨b,off,none⟩∧b<w.heap.size∧∀ i s,l[i]?=some s →
  w.cell? ⟨b,off+i * 5,none⟩=some (.string (str s.name))∧w.cell? ⟨b,off+i * 5+1,none⟩=some (.string (str s.parent))∧w.cell? ⟨b,off+i * 5+2,none⟩=some (.int .i64 s.kind)∧w.cell? ⟨b,off+i * 5+3,none⟩=some (.bool s.lease) ∧
  w.cell? ⟨b,off+i * 5+4,none⟩=some (.slice (A i) s.layer.length (C i))∧RdE w (A i) s.layer
theorem RdS.nil (w:World) (a:Option Addr):RdS w a []:=fun h=>absurd rfl h
theorem RdS.below {w w':World} {a:Option Addr} {l:List Sn} (h:RdS w a l) (hk:Below w.heap.size w w'):RdS w' a l:=by
 intro hz;obtain ⟨b,off,A,C,e,hb,hc⟩:=h hz;refine ⟨b,off,A,C,e,Nat.lt_of_lt_of_le hb hk.size,fun i x hx=>?_⟩
 obtain ⟨c0,c1,c2,c3,c4,r⟩:=hc i x hx;exact ⟨(hk.cell (p:=⟨b,off+i * 5,none⟩) hb).trans c0,(hk.cell (p:=⟨b,off+i * 5+1,none⟩) hb).trans c1,(hk.cell (p:=⟨b,off+i * 5+2,none⟩) hb).trans c2,(hk.cell (p:=⟨b,off+i * 5+3,none⟩) hb).trans c3,(hk.cell (p:=⟨b,off+i * 5+4,none⟩) hb).trans c4,r.below hk⟩
theorem RdS.at {w:World} {a:Option Addr} {l:List Sn} (h:RdS w a l) {k:Nat} (hk:k<l.length) :
  ∃ b off s x c,a=some ⟨b,off,none⟩∧b<w.heap.size∧l[k]?=some s∧w.cell? ⟨b,off+k * 5,none⟩=some (.string (str s.name))∧w.cell? ⟨b,off+k * 5+1,none⟩=some (.string (str s.parent))∧w.cell? ⟨b,off+k * 5+2,none⟩=some (.int .i64 s.kind)∧w.cell? ⟨b,off+k * 5+3,none⟩=some (.bool s.lease) ∧
   w.cell? ⟨b,off+k * 5+4,none⟩=some (.slice x s.layer.length c)∧RdE w x s.layer:=by
 obtain ⟨b,off,A,C,e,hb,hc⟩:=h (by intro e;simp[e]at hk)
 have hx:l[k]?=some l[k]:=List.getElem?_eq_getElem hk;obtain ⟨c0,c1,c2,c3,c4,r⟩:=hc k _ hx;exact ⟨b,off,l[k],A k,C k,e,hb,hx,c0,c1,c2,c3,c4,r⟩
def cD (l:List Sn):Prop:=l.length≤1048576∧∀ s∈l,s.name.length≤1048576∧s.parent.length≤1048576∧s.layer.length≤1048576∧aV s.layer
theorem aW.small {l:List Sn} (h:aW l) (hp:∀ s∈l,s.parent.length≤1048576) (he:∀ s∈l,aV s.layer):cD l:=by
 refine ⟨by have:=h.len;omega,fun s hs=>⟨?_,hp s hs,?_,he s hs⟩⟩
 ·have:=(h.own s hs).1
  simp only[fW,Bool.and_eq_true,decide_eq_true_eq]at this;omega
 ·have:=(eX.1 (h.own s hs).2.2).len
  omega
end Go.Proofs.YtolnlfnndnpiiaaGreat
namespace Go.Proofs.YtolnlfnndnpiiaaGreat
open Go.RowKit Go.Maps
attribute [local go_sem ↓] Go.wp_at_zero Go.wp_at_succ
theorem zl1 (e:En):(asT e).chunks=e.chunks:=by unfold asT;split <;> rfl
theorem kW (a:Option Addr) (c n:Nat) (ls:List (List En)) (p:Bs) (w:World) (h:RdL w a ls) (hn:n=ls.length) (hl:ls.length≤1048576) (hs:eJ ls) (hp:p.length≤1048576) :
  Calls Tryz.prog 112 #[.slice a n c,.string (str p)] w (eV (fB ls p) (oF ls p) w):=by
 subst hn;have X0:=aA (Box.new w (.int .i64 0) (.slice none 0 0) 131);have B0:=aA (aC w (.cells #[.int .i64 0,.slice none 0 0] 131));have HR:=aA h;have HSL:=aA hs;have HAs:=aA (oA a c ls.length ls p _ (h.below B0.out) rfl hl hs hp);clear h hs;by_cases hz:bJ ls p=0
 ·obtain ⟨h4,hRs,hpf⟩:=jD hz
  rw[hz]at HAs;have HRs:=aA (xN hRs HSL.out);go_enter Tryz.func112,Tryz.ntmps112;go_wp2_with fail
  refine HAs.out.mono ?_;rintro r w1 ⟨rfl,hb1⟩;have B1:=aA (aB B0.out hb1);have X1:=aA (X0.out.below hb1);clear hb1 X0 B0 HAs;go_wp2_with fail
  refine (zY a c ls.length ls w1 (HR.out.below B1.out) rfl h4 HRs.out).mono ?_;rintro r w2 ⟨b,N,rfl,hbb,hN,hM,hb2⟩;have HM:=aA hM;have BB2:=aA hb2;have B2:=aA (aB B1.out hb2);have X2:=aA (X1.out.below hb2);have HSA:=aA (zn2 b N p (dM ls) w1 w2 hM hp);clear hM hb2;unfold zxi at HSA;cases hsn:dW (dM ls) p 4 with
  | none =>
   have HC:=aA (zq8 hz hsn);rw[hsn]at HSA;clear hz hsn hRs hpf;go_wp2_with fail
   refine HSA.out.mono ?_;rintro r w3 ⟨⟨v,s,rfl⟩,hb3⟩;have B3:=aA (aB (aB B2.out hb3) (aC w3 (.cells #[.int .i64 v,.string s] 170)));obtain ⟨⟨t0,t1⟩,t2,t3⟩:=X2.out.below (aB hb3 (aC w3 (.cells #[.int .i64 v,.string s] 170)));clear hb3;go_wp2_with fail
   exact bodyPost_ret (v:=.agg #[.int .i64 4,.slice none 0 0]) (by simp[results,Tryz.results112,go_sem,t0,t1]) rfl (by rw[HC.out.1,HC.out.2.2];exact eV.bad (Nat.le_refl _) B3.out)
  | some k =>
   obtain ⟨hk4,e,he,-⟩:=kU hsn;have HC:=aA (zr8 hz hsn he);rw[hsn]at HSA;obtain ⟨es,hes,hee,-⟩:=kG he;have hkk:=kQ ((hRs es hes).ent e hee);have hsm:=(HSL.out es hes).2 e hee;clear hz hsn hRs hpf hes hee;go_wp2_with fail
   refine HSA.out.mono ?_;rintro r w3 ⟨rfl,hb3⟩;have BA:=aA (aC w3 (.cells #[.int .i64 k,.string (str p)] 170));have B3:=aA (aB (aB B2.out hb3) BA.out);have X3:=aA (X2.out.below (aB hb3 BA.out));have BB3:=aA (aB (aB BB2.out hb3) BA.out);obtain ⟨x,cc,-,hlk,hrd⟩:=((HM.out.below hb3).below BA.out).yes (by omega:k≤100) hp he
   have HL:=aA hlk;have HRc:=aA (hrd.below BB3.out);have Y3:=aA (Box.new w3 (.int .i64 k) (.string (str p)) 170);unfold gO;clear hb3 hlk hrd he HM HSA X2 B2 BB2 BA;obtain ⟨⟨y0,y1⟩,y2,y3⟩:=Y3.out;unfold gO at HL;go_wp2_with (at_lookup;refine iQ rfl _ _ 167 false rfl _ _ _ rfl rfl HL.out ?_)
   refine (zoe e x cc _ hkk).mono ?_;rintro r w4 ⟨rfl,hb4⟩;have B4:=aA (aB B3.out hb4);have X4:=aA (X3.out.below hb4);have BA5:=aA (aC w4 (.cells #[.int .i64 (asT e).size,.slice x (asT e).chunks.length cc,.string (str (asT e).path),.int .i64 (asT e).kind] 88));have HR4:=aA (show aP .i64 w4 x (asT e).chunks by rw[zl1];exact HRc.out.below hb4)
   have RI5:=aA (RdI.fresh (e:=asT e) (c:=cc) (t:=88) HR4.out);have hsm2:(asT e).path.length≤1048576∧(asT e).chunks.length≤1048576:=by rw[gH,zl1];exact hsm
   have B5:=aA (aB B4.out BA5.out);have X5:=aA (X4.out.below BA5.out);have hs4:=B4.out.size;have hlt5:w.heap.size<(w4.alloc (.cells #[.int .i64 (asT e).size,.slice x (asT e).chunks.length cc,.string (str (asT e).path),.int .i64 (asT e).kind] 88)).heap.size:=X5.out.1.lt;clear hb4 y0 y1 y2 y3 Y3 HL HRc HR4 X3 B3 BB3 X4 BA5;unfold itV;generalize asT e=E at *;go_wp2_with fail
   generalize w4.alloc (.cells #[.int .i64 E.size,.slice x E.chunks.length cc,.string (str E.path),.int .i64 E.kind] 88)=W5 at *;refine (jO _ _ 1 [E] _ RI5.out rfl (by simp) (fun y hy=>by simp only[List.mem_singleton]at hy;subst hy;exact hsm2)).mono ?_
   rintro r w7 ⟨av7,cv7,rfl,hG7,hb7⟩;obtain ⟨⟨t0,t1⟩,t2,t3⟩:=X5.out.below hb7;have G7:=aA hG7;have B7:=aA (aB B5.out hb7);clear hG7 hb7;go_wp2_with fail
   exact bodyPost_ret (v:=.agg #[.int .i64 0,.slice av7 1 cv7]) (by simp[results,Tryz.results112,go_sem,t0,t1]) rfl (by rw[HC.out.1,HC.out.2.2];exact eV.of (w2:=w1) hlt5 (Nat.le_refl _) rfl G7.out B7.out)
 ·have HC:=aA (zzm hz)
  generalize bJ ls p=F at *;have hz2:(F != 0)=true:=by simp;exact hz
  clear hz;go_enter Tryz.func112,Tryz.ntmps112;go_wp2_with fail
  refine HAs.out.mono ?_;rintro r w1 ⟨rfl,hb1⟩;have B1:=aA (aB B0.out hb1);obtain ⟨⟨t0,t1⟩,t2,t3⟩:=X0.out.below hb1;clear hb1;go_wp2_with fail
  exact bodyPost_ret (v:=.agg #[.int .i64 F,.slice none 0 0]) (by simp[results,Tryz.results112,go_sem,t0,t1]) rfl (by rw[HC.out.1,HC.out.2.2];exact eV.bad (Nat.le_refl _) B1.out)
theorem zs6 (b:Nat) (es:Array MapEntry) (clock:Nat) (w:World) (hb:w.heap[b]?=some (.map es clock)) :
  Calls Tryz.prog 233 #[.map (some b)] w fun e w'=>e=.returned (.map (some w.heap.size))∧w'=w.alloc (.map es clock):=by
 have hq:=fun w=>run_eql_map_nil_sl (P:=Tryz.prog) w 167 _ _ (some b) Tryz.underlying167
 go_enter Tryz.func233,Tryz.ntmps233;go_wp2
 rw[run_callFunc_extern Tryz.func255 (by kernel_rfl) (by kernel_rfl) (by kernel_rfl) (e:=Extern.MapsClone.clone) (by kernel_rfl),run_maps_clone_sl w 167 hb]
 simp only[Result.andThen];rw[Oper.upon_value];go_wp2
 rw[run_typeAssert_map_sl _ 167 _ _ _ _ Tryz.underlying167];simp only[Result.andThen];rw[Oper.upon_value];go_wp2
 go_ret
 exact ⟨rfl,rfl⟩
theorem zt6 (b N:Nat) (S:Nat→Bs→Option En) (w0 w:World) (h:eL w0 w b N S) :
  Calls Tryz.prog 233 #[.map (some b)] w fun r w'=>r=.returned (.map (some w.heap.size))∧eL w0 w' w.heap.size N S∧Below w.heap.size w w':=by
 obtain ⟨Dt,A,C,h1,h2⟩:=h;obtain ⟨es,clock,hb,F,hs,hD⟩:=h1;refine (zs6 b es clock w hb).mono fun e w' ⟨he,hw⟩=>?_
 subst hw;exact ⟨he,⟨Dt,A,C,⟨es,clock,(MapKept.heap_alloc w _).1,F,hs,hD⟩,h2⟩,aC _ _⟩
def nX (S:Nat→Bs→Option En) (i:Nat) (p:Bs):Bool:=!decide (dW S p 4=some i)
theorem zpb (b N i bx:Nat) (p:Bs) (S:Nat→Bs→Option En) (e:En) (x:Option Addr) (cc:Nat) (w0 w:World) (h:eL w0 w b N S) (hp:p.length≤1048576) (hx:w.cell? ⟨bx,0,none⟩=some (.map (some b))) :
  Calls Tryz.prog 235 (#[gO i p,itV e x cc] ++ #[.pointer (some ⟨bx,0,none⟩)]) w fun r w'=>r=.returned (.bool (nX S i p))∧Below w.heap.size w w':=by
 have hbx:bx<w.heap.size:=World.block_lt_of_cell? w ⟨bx,0,none⟩ hx;have BA:=aA (aC w (.cells #[.int .i64 i,.string (str p)] 170));have YA:=aA (Box.new w (.int .i64 i) (.string (str p)) 170);have BB:=aA (aC (w.alloc (.cells #[.int .i64 i,.string (str p)] 170)) (.cells #[.int .i64 e.size,.slice x e.chunks.length cc,.string (str e.path),.int .i64 e.kind] 88));have B2:=aA (aB BA.out BB.out);have Y2:=aA (YA.out.below BB.out);have HS:=aA (zn2 b N p S w0 _ ((h.below BA.out).below BB.out) hp);have hx2:=(B2.out.cell (p:=⟨bx,0,none⟩) hbx).trans hx;obtain ⟨⟨y0,y1⟩,y2,y3⟩:=Y2.out
 clear BA YA BB h hx;unfold gO itV;unfold zxi at HS;cases hs:dW S p 4 with
 | none =>
  have HG:=aA (show nX S i p=true by simp[nX,hs])
  rw[hs]at HS;clear hs;go_enter Tryz.func235,Tryz.ntmps235;go_wp2_with fail
  refine HS.out.mono ?_;rintro r w3 ⟨⟨v,s,rfl⟩,hb3⟩;have B3:=aA (aB B2.out (aB hb3 (aC _ (.cells #[.int .i64 v,.string s] 170))));clear hb3 y0 y1 y2 y3;go_wp2_with fail
  go_ret
  exact ⟨by rw[HG.out];rfl,B3.out⟩
 | some k =>
  rw[hs]at HS;have HG:=aA (show nX S i p=!decide (k=i) by simp[nX,hs])
  clear hs;unfold gO at HS;go_enter Tryz.func235,Tryz.ntmps235;go_wp2_with fail
  refine HS.out.mono ?_;rintro r w3 ⟨rfl,hb3⟩;have BC:=aA (aB hb3 (aC _ (.cells #[.int .i64 k,.string (str p)] 170)));have B3:=aA (aB B2.out BC.out);clear y0 y1 y2 y3;obtain ⟨⟨y0,y1⟩,y2,y3⟩:=Y2.out.below BC.out;clear hb3;by_cases hk:k=i
  ·subst hk
   have HG2:=aA (show nX S k p=false by rw[HG.out];simp)
   go_wp2_with fail
   go_ret
   exact ⟨by rw[HG2.out];rfl,B3.out⟩
  ·have HG2:=aA (show nX S i p=true by rw[HG.out];simp[hk])
   have hk2:¬ (k:Int)=(i:Int):=by omega
   go_wp2_with fail
   go_ret
   exact ⟨by rw[HG2.out];rfl,B3.out⟩
def zsl (W0:World) (b:Nat) (S:Nat→Bs→Option En) (fn:FuncId) (cap:Array Value) (f:Nat→Bs→Bool):Prop :=
 (∀ args w,(callFunc fn args).run Tryz.prog w=.ok (.enter fn args) w)∧∀ (i:Nat) (p:Bs) (e:En) (x:Option Addr) (cc:Nat) (w:World),i≤100→p.length≤1048576→aD (fun y=>y=b) W0 w →
  Calls Tryz.prog fn (#[gO i p,itV e x cc]++cap) w fun r w'=>r=.returned (.bool (f i p))∧Below w.heap.size w w'
theorem zvj (f:Nat→Bs→Bool):∃ pk:Lit→Bool,∀ i p,i≤100→p.length≤1048576→pk (eP i p)=f i p:=by
 refine ⟨fun kl=>@decide (∃ i p,i≤100∧p.length≤1048576∧kl=eP i p∧f i p=true) (Classical.propDecidable _),fun i p hi hp=>?_⟩
 rw[Bool.eq_iff_iff,@decide_eq_true_iff _ (Classical.propDecidable _)];constructor
 ·rintro ⟨j,q,hj,hq,he,hf⟩
  obtain ⟨rfl,rfl⟩:=sQ hi hj hp hq he;exact hf
 ·intro hf;exact ⟨i,p,hi,hp,rfl,hf⟩
theorem zb7 {f:Lit→Bool} {es:List (Lit × DataW Value)} {kl:Lit}:has (Lib.deleteFuncD (fun k _=>f k) (.map es)) kl=(has (.map es) kl&&!f kl):=by
 show (es.filter fun p=>!f p.1).any (fun p=>p.1.sameKey kl)=(es.any (fun p=>p.1.sameKey kl)&&!f kl)
 induction es with
 | nil=>simp
 | cons x r ih =>
  cases hs:x.1.sameKey kl
  ·cases hx:f x.1
   ·rw[List.filter_cons_of_pos (by simp[hx]),List.any_cons,List.any_cons,hs,ih];simp
   ·rw[List.filter_cons_of_neg (by simp[hx]),List.any_cons,hs,ih];simp
  ·have e:=WideAt.sameKey_eq hs
   cases hx:f x.1
   ·have h0:f kl=false:=by rw[←e];exact hx
    rw[List.filter_cons_of_pos (by simp[hx]),List.any_cons,List.any_cons,hs,h0];simp
   ·have h0:f kl=true:=by rw[←e];exact hx
    rw[List.filter_cons_of_neg (by simp[hx]),ih,List.any_cons,hs,h0];simp
theorem zlj {f:Lit→Bool} {es:List (Lit × DataW Value)} {kl:Lit} (hk:f kl=false) (z:DataW Value):(Lib.deleteFuncD (fun k _=>f k) (.map es)).atKey kl z=(DataW.map es).atKey kl z:=by
 have hfind:(es.filter fun p=>!f p.1).find? (fun p=>p.1.sameKey kl)=es.find? (fun p=>p.1.sameKey kl):=by
  induction es with
  | nil=>rfl
  | cons x r ih =>
   cases hs:x.1.sameKey kl
   ·cases hx:f x.1
    ·rw[List.filter_cons_of_pos (by simp[hx]),List.find?_cons_of_neg (by simp[hs]),List.find?_cons_of_neg (by simp[hs]),ih]
    ·rw[List.filter_cons_of_neg (by simp[hx]),List.find?_cons_of_neg (by simp[hs]),ih]
   ·have e:=WideAt.sameKey_eq hs
    have hx:f x.1=false:=by rw[e];exact hk
    rw[List.filter_cons_of_pos (by simp[hx]),List.find?_cons_of_pos (by simp[hs]),List.find?_cons_of_pos (by simp[hs])]
 simp only[Lib.deleteFuncD,DataW.atKey,hfind]
theorem zkn {es:List (Lit × DataW Value)} {kl:Lit} {d:DataW Value} (h:∀ z,(DataW.map es).atKey kl z=d):∃ q∈es,q.1=kl:=by
 cases hf:es.find? (fun p=>p.1.sameKey kl) with
 | some q=>exact ⟨q,List.mem_of_find?_eq_some hf,WideAt.sameKey_eq (by simpa using List.find?_some hf)⟩
 | none =>
  have h1:=h .nil;have h2:=h (.map []);simp only[DataW.atKey,hf]at h1 h2;rw[←h1]at h2;cases h2
theorem tA {w w':World} (h:Below w.heap.size w w'):w.grownBy w' none:=⟨h.os,h.tape,h.output,h.size,fun k hk _=>h.block k hk⟩
theorem zd9 {S:Nat→Bs→Option En} {w0:World} {A:Nat→Bs→Option Addr} {C:Nat→Bs→Nat} {es0:List (Lit × DataW Value)} {pd:Lit→DataW Value→Bool} {left:Lit→Bool} {x c:Value} {kl:Lit} {yd:DataW Value} {yp:List MemPlace}
  (hap:es0.Pairwise (fun p q=>p.1≠q.1)) (h2:∀ i p,i≤100→p.length≤1048576→has (.map es0) (eP i p)=(S i p).isSome)
  (h3:∀ i p e,i≤100→p.length≤1048576→S i p=some e→(∀ z,(DataW.map es0).atKey (eP i p) z=.held (itV e (A i p) (C i p)))∧aP .i64 w0 (A i p) e.chunks)
  (h4:∀ kl,has (.map es0) kl=true→∃ i p,i≤100∧p.length≤1048576∧kl=eP i p)
  (hkey:keyOf Tryz.prog 170 x=some kl) (hlx:left kl=true) (hv:RVs c=some (yd,yp)) (hat:∀ z,(Fk pd es0 left).atKey kl z=yd) :
  ∃ i p e,i≤100∧p.length≤1048576∧kl=eP i p∧x=gO i p∧c=itV e (A i p) (C i p)∧S i p=some e:=by
 have hk:=gE.key hkey;have hc:=at_cameK hap hk hlx hat;obtain ⟨q,hq,hqk⟩:=zkn (show ∀ z,(DataW.map (es0.filter fun p=>!pd p.1 p.2||left p.1)).atKey kl z=yd from hat)
 have hq0:=(List.mem_filter.1 hq).1;have hhas:has (.map es0) kl=true:=List.any_eq_true.2 ⟨q,hq0,by rw[hqk];exact WideAt.sameKey_self hk⟩
 obtain ⟨i,p,hi,hp,rfl⟩:=h4 kl hhas;have hx:x=gO i p:=gE.inj hkey (mD hi hp);rw[h2 i p hi hp]at hhas;obtain ⟨e,he⟩:=Option.isSome_iff_exists.1 hhas;have h5:=(h3 i p e hi hp he).1 .nil;have h6:=WideAt.atKey_mem (H:=Value) (entries:=es0) (d:=q.2) .nil hk hap (by rw[←hqk];exact hq0)
 have h7:=hc q hq0 hqk;rw[h6,h7]at h5;simp only[RVs,Option.some.injEq,Prod.mk.injEq]at hv;have h8:=hv.1.trans h5;simp only[DataW.held.injEq]at h8;exact ⟨i,p,e,hi,hp,rfl,hx,h8,he⟩
theorem zb3 (b N:Nat) (S:Nat→Bs→Option En) (fn:FuncId) (cap:Array Value) (f:Nat→Bs→Bool) (w0 w:World) (h:eL w0 w b N S) (hf:zsl w b S fn cap f) :
  Calls Tryz.prog 234 #[.map (some b),.func (.func fn) #[] cap] w fun r w'=>r=.returned (.tuple #[])∧eL w0 w' b N (fun i p=>if f i p then none else S i p)∧aD (fun x=>x=b) w w':=by
 obtain ⟨Dt,A,C,h1,h2,h3,h4⟩:=h;obtain ⟨pk,hpk⟩:=zvj f;obtain ⟨es0,rfl,hap,hkeys⟩:=h1.entries gE;have hown:=h1;have eg:=hf.1;have HF:=aA hf.2;have H2:=aA h2;have H3:=aA h3;have H4:=aA h4;have HP:=aA hpk;have HEnd:=aA (show ∀ w',w'.ownsMap Tryz.prog 170 RVs b N (Lib.deleteFuncD (fun k _=>pk k) (.map es0))→eL w0 w' b N (fun i p=>if f i p then none else S i p) from fun w' ho=>by
  refine ⟨_,A,C,ho,fun i p hi hp=>?_,fun i p e hi hp he=>?_,fun kl hkl=>?_⟩
  ·rw[zb7,H2.out i p hi hp,HP.out i p hi hp]
   cases hx:f i p <;> simp[hx]
  ·have hfi:f i p=false:=by
    cases hx:f i p
    ·rfl
    ·simp[hx]at he
   have hS:S i p=some e:=by simpa [hfi] using he
   obtain ⟨g1,g2⟩:=H3.out i p e hi hp hS;exact ⟨fun z=>by rw[zlj (by rw[HP.out i p hi hp];exact hfi)];exact g1 z,g2⟩
  ·rw[zb7]at hkl
   exact H4.out kl (by simp at hkl;exact hkl.1))
 clear h2 h3 h4 hpk hf h1;go_enter Tryz.func234,Tryz.ntmps234;go_wp2_with (first
  | (at_range;refine wpList_range_own _ rfl _ 167 rfl 170 88 gE Tryz.underlying167 RVs b N _ rfl hown ?_;intro w0 hrg0 hg0 hs0)
  | go_in)
 go_frame
 go_loopw [8] (fun _ wr=>∃ (left:Lit→Bool) (cnt:Nat),wr.ranges Tryz.prog 170 RVs b w.heap.size N (Fk (fun k _=>pk k) es0 left) left cnt∧w.grownBy wr (some b))
  (fun _ wr=>wr.rangeLeft b w.heap.size)
 case atStart=>exact ⟨_,_,by rw[Fk_start hkeys];exact hrg0,hg0.but _⟩
 case round =>
  obtain ⟨left,cnt,hrg,hgw⟩:=hrel;go_wp2_with (first
   | (at_next;refine wpList_next_ranges _ rfl _ rfl 170 gE RVs id id (fun key _ _=>⟨key,rfl⟩) (fun v _ _=>⟨v,rfl⟩) b w.heap.size N _ _ _ rfl hrg ?_ ?_)
   | go_in)
  ·intro _ hl0
   go_wp2
   go_end0
   exact ⟨rfl,HEnd.out _ (by rw[←Fk_end hl0];exact hrg.owns),xU hgw⟩
  ·intro x c kl yd yp w1 cnt1 hkey hlx hv hat hrg1 hlt hg1 hs1 hen
   obtain ⟨i,p,e,hi,hp,rfl,hx,hcc,he⟩:=zd9 hap H2.out H3.out H4.out hkey hlx hv hat;have hgw1:=hgw.andThen hg1 (fun j hj=>by cases hj;exact Or.inl (Nat.le_refl _))
   have hx2:x=gO i p:=hx;have hc2:c=itV e (A i p) (C i p):=hcc;subst hx2 hc2;clear hx hcc;have BA:=aA (aC w1 (.cells #[.int .i64 i,.string (str p)] 170));have BB:=aA (aC (w1.alloc (.cells #[.int .i64 i,.string (str p)] 170)) (.cells #[.int .i64 e.size,.slice (A i p) e.chunks.length (C i p),.string (str e.path),.int .i64 e.kind] 88));have BC:=aA (aB BA.out BB.out);have YC:=aA ((Box.new w1 (.int .i64 i) (.string (str p)) 170).below BB.out);have hc:=HF.out i p e (A i p) (C i p) _ hi hp (xU (hgw1.andThen (tA BC.out) (fun j hj=>by cases hj)))
   rw[hs1]at YC;have HPK:=aA (HP.out i p hi hp);have HHat:=aA hat;have HKy:=aA hkey;unfold gO itV at hc hen ⊢;clear BA BB he hat hkey hv;cases hp2:f i p
   ·rw[hp2]at hc
    have HC:=aA hc;have hpk2:pk (eP i p)=false:=HPK.out.trans hp2;clear hc hp2;go_wp2_with go_in
    refine HC.out.mono ?_;rintro r w2 ⟨rfl,hb2⟩;have hg2:=tA (aB BC.out hb2);have hrg2:=hrg1.kept hg2 (by simp) (by simp)
    clear hb2 hen;go_wp2_with go_in
    go_roundw
    case rel=>exact ⟨_,cnt1,by rw[←Fk_stays hap (gE.key HKy.out) hlx hpk2 HHat.out];exact hrg2,hgw1.andThen hg2 (fun j hj=>by cases hj)⟩
    case measure=>rw[hrg2.left_eq,hrg.left_eq];exact hlt
   ·rw[hp2]at hc
    have HC:=aA hc;have hpk2:pk (eP i p)=true:=HPK.out.trans hp2;clear hc hp2;go_wp2_with go_in
    refine HC.out.mono ?_;rintro r w2 ⟨rfl,hb2⟩;have hg2:=tA (aB BC.out hb2);have hrg2:=hrg1.kept hg2 (by simp) (by simp)
    obtain ⟨⟨y0,y1⟩,y2,y3⟩:=YC.out.below hb2;clear hb2 hen;go_wp2_with (first
     | (at_delete;refine wpList_delete_ranges _ rfl _ _ 167 170 rfl 88 gE Tryz.underlying167 RVs b w.heap.size N _ _ _ rfl hrg2 _ _ rfl HKy.out ?_;intro w3 cnt3 hrg3 hle hturn;go_frame)
     | go_in)
    rw[strike_twice]at hrg3;go_roundw
    case rel=>exact ⟨_,cnt3,by rw[←Fk_struck hap (gE.key HKy.out) hlx hpk2 HHat.out];exact hrg3,(hgw1.andThen hg2 (fun j hj=>by cases hj)).andThen hturn.grown (fun j hj=>by cases hj;exact Or.inr rfl)⟩
    case measure=>rw[hrg3.left_eq,hrg.left_eq];omega
end Go.Proofs.YtolnlfnndnpiiaaGreat
namespace Go.Proofs.YtolnlfnndnpiiaaGreat
open Go.RowKit Go.Maps Go.Shelf
structure nN (w0:World) (S:Nat→Bs→Option En) (left:Lit→Bool) (ss:List ((Nat × Bs) × Rw)):Prop where
 one:(ss.map Prod.fst).Nodup
 was:∀ x∈ss,x.1.1≤100∧x.1.2.length≤1048576∧S x.1.1 x.1.2=some x.2.e∧aP .i64 w0 x.2.a x.2.e.chunks∧left (eP x.1.1 x.1.2)=false
 all:∀ i p e,i≤100→p.length≤1048576→S i p=some e→left (eP i p)=false→(i,p)∈ss.map Prod.fst
theorem nN.step {w0:World} {S:Nat→Bs→Option En} {left:Lit→Bool} {ss:List ((Nat × Bs) × Rw)} {i:Nat} {p:Bs} {r:Rw} (h:nN w0 S left ss) (hi:i≤100) (hp:p.length≤1048576) (hl:left (eP i p)=true) (hS:S i p=some r.e) (hr:aP .i64 w0 r.a r.e.chunks) :
  nN w0 S (fun z=>left z&&!z.sameKey (eP i p)) (ss ++ [((i,p),r)]):=by
 have hself:(eP i p).sameKey (eP i p)=true:=WideAt.sameKey_self (vL hi hp);refine ⟨?_,fun x hx=>?_,fun j q e hj hq he hlf=>?_⟩
 ·rw[List.map_append,List.nodup_append]
  refine ⟨h.one,by simp,fun y hy z hz e=>?_⟩
  simp only[List.map_cons,List.map_nil,List.mem_singleton]at hz;subst hz;subst e
  obtain ⟨x,hx,hxy⟩:=List.mem_map.1 hy;have:=(h.was x hx).2.2.2.2;rw[hxy,hl]at this;cases this
 ·rcases List.mem_append.1 hx with hx | hx
  ·obtain ⟨a1,a2,a3,a4,a5⟩:=h.was x hx
   exact ⟨a1,a2,a3,a4,by simp[a5]⟩
  ·simp only[List.mem_singleton]at hx
   subst hx;exact ⟨hi,hp,hS,hr,by simp[hself]⟩
 ·rw[List.map_append,List.mem_append]
  cases hl2:left (eP j q)
  ·exact Or.inl (h.all j q e hj hq he hl2)
  ·rw[hl2]at hlf
   have hk:=WideAt.sameKey_eq (show (eP j q).sameKey (eP i p)=true by simpa using hlf)
   obtain ⟨rfl,rfl⟩:=sQ hj hi hq hp hk;exact Or.inr (by simp)
theorem zhf (F:Fence) (n:Nat) (hF:F.fn 257) (hro:F.round=none) (hn:1≤n) (l Bm b N:Nat) (S:Nat→Bs→Option En) (w0:World) (J:List Rw→World→Prop)
  (hY:∀ pre (r:Rw) W,J pre W→pre.length<N→(∃ i p,S i p=some r.e)→aP .i64 w0 r.a r.e.chunks→YieldAt F (n - 1) Tryz.prog l #[itV r.e r.a r.c] W fun e W'=>e=.returned (.bool true)∧J (pre ++ [r]) W'∧KeepsWalks W W')
  (W:World) (hJ:AbidesFrom W.heap.size J) (hm:W.cell? ⟨Bm,0,none⟩=some (.map (some b))) (hS:eL w0 W b N S) (h0:J [] W) :
  CallsIn F n Tryz.prog 257 #[.func (.yield l) #[] #[],.pointer (some ⟨Bm,0,none⟩)] W fun e W'=>(∃ v,e=.returned v)∧∃ ss:List ((Nat × Bs) × Rw),ss.length≤N∧nN w0 S (fun _=>false) ss∧J (ss.map Prod.snd) W':=by
 obtain ⟨Dt,A,C,h1,h2,h3,h4⟩:=hS;obtain ⟨es0,rfl,hap,hkeys⟩:=h1.entries gE;have hown:=h1;have H2:=aA h2;have H3:=aA h3;have H4:=aA h4;clear h2 h3 h4 h1;refine callsIn_of_wp Tryz.func257 rfl hF ?_ hro;simp only[Tryz.ntmps257,List.size_toArray,List.length_cons,List.length_nil,Nat.reduceAdd,Nat.reduceSub,Array.replicate_succ,Array.replicate_zero,List.push_toArray,List.append_toArray,List.nil_append,List.cons_append];gi_wp2_with (first
  | (gi_at_range;refine wpListIn_range_own _ rfl _ 167 rfl 170 88 gE Tryz.underlying167 _ b N _ rfl hown ?_;intro v0 hrg0 hg0 hs0)
  | gi_in)
 go_frame
 gi_loopw [7] (fun _ wr=>∃ (left:Lit→Bool) (cnt:Nat) (ss:List ((Nat × Bs) × Rw)),wr.ranges Tryz.prog 170 RVs b W.heap.size N (.map es0) left cnt∧ss.length+cnt≤N∧nN w0 S (fun z=>Maps.has (.map es0) z&&left z) ss∧J (ss.map Prod.snd) wr)
  (fun _ wr=>wr.rangeLeft b W.heap.size)
 case atStart =>
  exact ⟨_,_,[],hrg0,by simpa using hown.size_le,⟨by simp,fun x hx=>by simp at hx,fun i p e hi hp he hl=>by
   rw[Bool.and_self,H2.out i p hi hp,he]at hl;cases hl⟩,hJ [] W v0 none h0 hg0 (fun r e=>by cases e)⟩
 case round =>
  obtain ⟨left,cnt,ss,hrg,hcs,hC,hJs⟩:=hrel;gi_wp2_with (first
   | (gi_at_next;refine wpListIn_next_ranges _ rfl _ rfl 170 gE RVs id id (fun key _ _=>⟨key,rfl⟩) (fun v _ _=>⟨v,rfl⟩) b W.heap.size N _ _ _ rfl hrg ?_ ?_)
   | gi_in)
  ·intro hc0 hl0
   gi_wp2
   go_end0
   refine ⟨⟨_,rfl⟩,ss,by omega,?_,hJs⟩
   have:(fun z=>Maps.has (.map es0) z&&left z)=fun _=>false:=funext fun z=>by simp[hl0 z]
   rw[this]at hC;exact hC
  ·intro x c kl yd yp w2 cnt2 hkey hlk hv hat hrg2 hlt hg2 hs2 hen
   have hFk:Fk (fun _ _=>false) es0 left=.map es0:=by simp[Fk]
   obtain ⟨i,p,e,hi,hp,rfl,hx,hcc,he⟩:=zd9 (pd:=fun _ _=>false) hap H2.out H3.out H4.out hkey hlk hv (by rw[hFk];exact hat)
   have hx2:x=gO i p:=hx;have hc2:c=itV e (A i p) (C i p):=hcc;subst hx2 hc2;clear hx hcc hFk;have hrd:=(H3.out i p e hi hp he).2;have hhas:Maps.has (.map es0) (eP i p)=true:=by rw[H2.out i p hi hp,he];rfl
   have hC2:=hC.step (r:=⟨e,A i p,C i p⟩) hi hp (by rw[hhas,hlk];rfl) he hrd
   have hJ2:J (ss.map Prod.snd) w2:=hJ _ wr w2 (some W.heap.size) hJs hg2 (fun r e=>by cases e;exact ⟨Nat.le_refl _,hrg.iter_walk⟩)
   have hJ3:=hJ _ w2 (w2.alloc (.cells #[.int .i64 e.size,.slice (A i p) e.chunks.length (C i p),.string (str e.path),.int .i64 e.kind] 88)) none hJ2 (World.grownBy_alloc _ _ _) (fun r e=>by cases e)
   have hrg3:=hrg2.kept (World.grownBy_alloc w2 (.cells #[.int .i64 e.size,.slice (A i p) e.chunks.length (C i p),.string (str e.path),.int .i64 e.kind] 88) none) (by simp) (by simp)
   obtain ⟨fn,tmps,assign,body,hy,hR⟩:=hY _ ⟨e,A i p,C i p⟩ _ hJ3 (by rw[List.length_map];omega) ⟨i,p,he⟩ hrd
   unfold itV at hy hen;unfold gO at hen;unfold itV gO;clear hC hJs hJ2 hv hat hkey;gi_wp2
   refine hR.mono ?_;rintro e W3 ⟨rfl,hJ3,hk3⟩;gi_wp2
   have hrg4:=hrg3.of_walks hk3;go_roundw
   case rel=>exact ⟨_,cnt2,ss ++ [((i,p),⟨_,A i p,C i p⟩)],hrg4,by simp;omega,by simpa [Bool.and_assoc] using hC2,by simpa using hJ3⟩
   case measure=>rw[hrg4.left_eq,hrg.left_eq];exact hlt
end Go.Proofs.YtolnlfnndnpiiaaGreat
