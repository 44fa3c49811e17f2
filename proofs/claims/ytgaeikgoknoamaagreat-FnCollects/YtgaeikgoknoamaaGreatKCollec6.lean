/-
  Texts put together: IteC IteD EntS EntX IteE EntQ LayR LayG Digest Parts IntsR Digests EntI.
-/
import Derived.Test.YtgaeikgoknoamaaGreatKCollec4
import Derived.Test.YtgaeikgoknoamaaGreatKCollec5
import Derived.Test.YtgaeikgoknoamaaGreatKCollec2
import Derived.Test.YtgaeikgoknoamaaGreatKCollec3
import Derived.Deep.SlicePairs
import Derived.ProofKit
import Derived.ChangeOld
set_option linter.unusedVariables false
set_option maxHeartbeats 3200000
set_option maxRecDepth 100000
namespace Go.Proofs.YtgaeikgoknoamaaGreat
open Go.RowKit Go.Maps
attribute [local go_sem ↓] Go.wp_at_zero Go.wp_at_succ
theorem wE {P:Program} {wr:World} {ops:Array Oper} {rest:List Oper} {o:Oper} {a:Act} {Q:Exit→Act→World→Prop} (hgd:o.guard=none) (s x:Operand) (t:TypeId)
  (ho:o.op=.call { callee:=.builtin .append,args:=#[s,x],argTypes:=#[t,t] })
  (e:TypeId) (i:TypeInfo) (k:IntKind) (bytes:Nat) (hu:P.underlying t=some (.slice e)) (hi:P.info? e=some i) (hz:i.zero=some (.int k 0))
  (hsize:i.size=1) (hby:i.bytes=bytes) (hs:a.eval s=.slice none 0 0)
  (xa:Option Addr) (m cap:Nat) (zs:List Int) (hx:a.eval x=.slice xa m cap) (hm:m=zs.length) (hr:aZ k wr xa zs)
  (h63:0+m≤maxLen) (hbytes:(0+m) * bytes≤140737488355328)
  (h:∀ av cv w',w'.ownsRow wr.heap.size e 1 (.slice av m cv) m (zs.map (Value.int k))→Below wr.heap.size wr w'→wpList P ops Q rest (a.put o.dst (.slice av m cv)) w') :
  wpList P ops Q (o :: rest) a wr:=by
 cases xa with
 | some ad =>
  refine wpList_append_own _ hgd s x t ho wr.heap.size e i (.int k 0) 1 bytes hu hi hz hsize hby rfl (by decide) _ 0 [] hs (World.ownsRow_nil _ _ _ _) ad m cap (zs.map (Value.int k)) hx (by simp[hm]) (fun j u hj=>?_) (rX _ _) h63 hbytes (Nat.le_refl _) ?_
  ·have h0:zs≠[]:=fun e=>by subst e;simp at hj
   obtain ⟨b,off,e1,hb,hc⟩:=hr h0;simp only[Option.some.injEq]at e1;subst e1;exact oU hc j u hj
  ·intro v' w' ho' hg _
   rw[List.nil_append,Nat.zero_add]at ho';obtain ⟨av,cv,rfl⟩:=aR ho';exact h av cv w' ho' ⟨hg.os,hg.tape,hg.output,hg.size,fun q hq=>hg.block q hq (fun e=>by simp[Value.ownBlock]at e)⟩
 | none =>
  have h0:zs=[]:=by
   by_cases h0:zs=[]
   ·exact h0
   ·obtain ⟨b,off,e1,_⟩:=hr h0;cases e1
  subst h0;simp only[List.length_nil]at hm;subst hm;have hrun:(Builtin.append_ #[t,t] o.type #[.slice none 0 0,.slice none 0 cap]).run P wr=.ok (.slice none 0 0) wr:=by
   simp[Builtin.append_,run_underlying hu,sizeOf,typeInfo,hi,Builtin.lenOf,Builtin.firstCells]
  refine wpList_plain hgd fun K hK=>?_
  unfold Oper.wp execOp;simp only[ho,resolve,invoke,builtin,Sem.run_bind,Sem.run_pure,Result.andThen_ok,List.map_toArray,List.map_cons,List.map_nil,hs,hx,hrun];exact hK _ _ (h _ _ wr (World.ownsRow_nil _ _ _ _) (Below.refl _ _))
theorem zV (z:Int) (x:Option Addr) (c:Nat) (zs:List Int) (w:World) (h:aZ .i64 w x zs) (hc:zs.length≤1048576) :
  Calls Tryz.prog 143 #[.agg #[.int .i64 z,.slice x zs.length c]] w fun r w'=>∃ av cv,r=.returned (.slice av zs.length cv)∧w'.ownsRow w.heap.size 2 1 (.slice av zs.length cv) zs.length (zs.map (Value.int .i64))∧Below w.heap.size w w':=by
 obtain ⟨i0,hi0,hz0,hz1,hz2⟩:=info_parts Tryz.infoI64;have HR:=aA (h.below (aC w (.cells #[.int .i64 z,.slice x zs.length c] 89)));have hm0:0+zs.length≤maxLen:=by unfold maxLen;omega
 have hm1:(0+zs.length) * 8≤140737488355328:=by omega
 clear h;go_enter Tryz.func143,Tryz.ntmps143;go_wp2_with (at_builtin;refine wE rfl (.const (.slice none 0 0)) (.tmp 4) 48 rfl 2 i0 .i64 8 Tryz.underlying48 hi0 hz0 hz1 hz2 rfl x zs.length c zs rfl rfl HR.out hm0 hm1 ?_;intro av cv w1 hown1 hk1;have O1:=aA hown1;have B1:=aA hk1;clear hown1 hk1)
 go_ret
 exact ⟨av,cv,rfl,aW O1.out (by simp),aB (aC _ _) B1.out⟩
theorem Tryz.infoIt:(Tryz.prog.info? 91).map (fun i=>(i.zero,i.size,i.bytes))=some (some (.agg #[.int .i64 0,.slice none 0 0,.string ⟨#[]⟩,.int .i64 0]),4,56):=by kernel_rfl
def dB (r:Rw):List Value:=[.int .i64 r.e.size,.slice r.a r.e.chunks.length r.c,.string (str r.e.path),.int .i64 r.e.kind]
def iJ (rs:List Rw):List Value:=rs.flatMap dB
theorem xA (a b:List Rw):iJ (a++b)=iJ a++iJ b:=by simp[iJ]
theorem xV:∀ (rs:List Rw) (i q:Nat) (r:Rw),rs[i]?=some r→q<4→(iJ rs)[i * 4+q]?=(dB r)[q]?
 | [],i,q,r,h,_=>by simp at h
 | x :: rs,0,q,r,h,hq=>by
  simp only[List.getElem?_cons_zero,Option.some.injEq]at h;subst h;simp only[iJ,List.flatMap_cons,Nat.zero_mul,Nat.zero_add];rw[List.getElem?_append_left (by simp[dB];omega)]
 | x :: rs,i+1,q,r,h,hq=>by
  have:=xV rs i q r (by simpa using h) hq
  rw[←this];simp only[iJ,List.flatMap_cons];rw[List.getElem?_append_right (by simp[dB];omega)]
  congr 1
  simp[dB];omega
theorem sT (rs:List Rw):∀ u∈iJ rs,u.oneCell'=true:=by
 intro u hu;simp only[iJ,List.mem_flatMap]at hu;obtain ⟨r,_,hr⟩:=hu;simp only[dB,List.mem_cons,List.not_mem_nil,or_false]at hr;rcases hr with rfl | rfl | rfl | rfl <;> rfl
def RdI (w:World) (a:Option Addr) (es:List En):Prop :=
 es≠[]→∃ (b off:Nat) (A:Nat→Option Addr) (C:Nat→Nat),a=some ⟨b,off,none⟩∧b<w.heap.size∧∀ i e,es[i]?=some e →
  w.cell? ⟨b,off+i * 4,none⟩=some (.int .i64 e.size)∧w.cell? ⟨b,off+i * 4+1,none⟩=some (.slice (A i) e.chunks.length (C i))∧w.cell? ⟨b,off+i * 4+2,none⟩=some (.string (str e.path)) ∧
  w.cell? ⟨b,off+i * 4+3,none⟩=some (.int .i64 e.kind)∧aZ .i64 w (A i) e.chunks
theorem RdI.below {w w':World} {a:Option Addr} {es:List En} (h:RdI w a es) (hk:Below w.heap.size w w'):RdI w' a es:=by
 intro hz;obtain ⟨b,off,A,C,e,hb,hc⟩:=h hz;refine ⟨b,off,A,C,e,Nat.lt_of_lt_of_le hb hk.size,fun i x hx=>?_⟩
 obtain ⟨c0,c1,c2,c3,r⟩:=hc i x hx;exact ⟨(hk.cell (p:=⟨b,off+i * 4,none⟩) hb).trans c0,(hk.cell (p:=⟨b,off+i * 4+1,none⟩) hb).trans c1,(hk.cell (p:=⟨b,off+i * 4+2,none⟩) hb).trans c2,(hk.cell (p:=⟨b,off+i * 4+3,none⟩) hb).trans c3,r.below hk⟩
theorem RdI.at {w:World} {a:Option Addr} {es:List En} (h:RdI w a es) {k:Nat} (hk:k<es.length) :
  ∃ b off e x c,a=some ⟨b,off,none⟩∧b<w.heap.size∧es[k]?=some e∧w.cell? ⟨b,off+k * 4,none⟩=some (.int .i64 e.size)∧w.cell? ⟨b,off+k * 4+1,none⟩=some (.slice x e.chunks.length c)∧w.cell? ⟨b,off+k * 4+2,none⟩=some (.string (str e.path)) ∧
   w.cell? ⟨b,off+k * 4+3,none⟩=some (.int .i64 e.kind)∧aZ .i64 w x e.chunks:=by
 obtain ⟨b,off,A,C,e,hb,hc⟩:=h (by intro e;simp[e]at hk)
 have hx:es[k]?=some es[k]:=List.getElem?_eq_getElem hk;obtain ⟨c0,c1,c2,c3,r⟩:=hc k _ hx;exact ⟨b,off,es[k],A k,C k,e,hb,hx,c0,c1,c2,c3,r⟩
def LI (w0 w:World) (v:Value) (es:List En):Prop :=
 ∃ rs:List Rw,rs.map Rw.e=es∧w.ownsRow w0.heap.size 91 4 v es.length (iJ rs)∧∀ r∈rs,aZ .i64 w0 r.a r.e.chunks
theorem LI.shape {w0 w:World} {v:Value} {es:List En} (h:LI w0 w v es):∃ a c,v=.slice a es.length c:=by
 obtain ⟨rs,_,h1,_⟩:=h;exact aR h1
theorem LI.nil (w0 w:World):LI w0 w (.slice none 0 0) [] :=
 ⟨[],rfl,World.ownsRow_nil _ _ _ _,fun r hr=>by simp at hr⟩
theorem LI.below {w0 w w':World} {v:Value} {es:List En} (h:LI w0 w v es) (hk:Below w.heap.size w w'):LI w0 w' v es:=by
 obtain ⟨rs,he,h1,h2⟩:=h;exact ⟨rs,he,aJ h1 hk,h2⟩
theorem LI.push {w0 w2:World} {v':Value} {es:List En} {rs:List Rw} {e:En} {a:Option Addr} {c m:Nat} (he:rs.map Rw.e=es) (hm:m=es.length)
  (h2:∀ r∈rs,aZ .i64 w0 r.a r.e.chunks) (hr:aZ .i64 w0 a e.chunks)
  (hv':w2.ownsRow w0.heap.size 91 4 v' (m+1) (iJ rs++dB ⟨e,a,c⟩)):LI w0 w2 v' (es ++ [e]):=by
 subst hm;refine ⟨rs ++ [⟨e,a,c⟩],by rw[List.map_append,he];rfl,?_,fun r hx=>?_⟩
 ·rw[xA,List.length_append]
  simpa [iJ] using hv'
 ·rcases List.mem_append.1 hx with hx | hx
  ·exact h2 r hx
  ·simp only[List.mem_singleton]at hx
   subst hx;exact hr
theorem LI.rd {w0 w:World} {a:Option Addr} {n c:Nat} {es:List En} (h:LI w0 w (.slice a n c) es) (hb:Below w0.heap.size w0 w):RdI w a es:=by
 intro hz;obtain ⟨rs,he,h1,h2⟩:=h;have h0:0<es.length:=List.length_pos_iff.2 hz;have hl:rs.length=es.length:=by rw[←he,List.length_map]
 rcases h1.2 with ⟨_,h0'⟩ | ⟨g,cap,cur,h',hb',hh,hnc,hcm,hcs,htake⟩
 ·omega
 ·simp only[Value.slice.injEq]at h'
  obtain ⟨rfl,rfl,rfl⟩:=h';refine ⟨g,0,fun i=>(rs[i]?.map Rw.a).getD none,fun i=>(rs[i]?.map Rw.c).getD 0,rfl,(h1.lt g rfl).2,fun i e hi=>?_⟩
  have hi0:i<es.length:=(List.getElem?_eq_some_iff.1 hi).1;obtain ⟨r,hr⟩:∃ r,rs[i]?=some r:=⟨rs[i]'(by omega),List.getElem?_eq_getElem (by omega)⟩
  have hre:r.e=e:=by
   have:(rs.map Rw.e)[i]?=some r.e:=by rw[List.getElem?_map,hr];rfl
   rw[he,hi]at this;exact (Option.some.inj this).symm
  have hc:=fun q hq=>(h1.cellAt (i * 4+q) (by omega)).trans (xV rs i q r hr hq)
  simp only[hr,Option.map_some,Option.getD_some,Nat.zero_add];rw[←hre];exact ⟨hc 0 (by decide),hc 1 (by decide),hc 2 (by decide),hc 3 (by decide),(h2 r (List.mem_of_getElem? hr)).below hb⟩
theorem zg2 (a:Option Addr) (c n:Nat) (es:List En) (w:World) (h:RdI w a es) (hn:n=es.length) (hl:es.length≤1048576) (hs:bJ es) :
  Calls Tryz.prog 93 #[.slice a n c] w fun r w'=>∃ av cv,r=.returned (.slice av n cv)∧GE w.heap.size w'.heap.size w' (.slice av n cv) es∧Below w.heap.size w w':=by
 subst hn;obtain ⟨i1,ki,kz0,kz1,kz2⟩:=info_parts Tryz.infoEn;have HA:=aA h;have HS:=aA hs;clear h hs;go_enter Tryz.func93,Tryz.ntmps93;go_wp2_with fail
 go_loopw [3,8] (fun v i wr=>∃ j:Nat,j≤es.length∧i=.int .i64 j∧Hid (GE w.heap.size wr.heap.size wr v (es.take j))∧Hid (Below w.heap.size w wr)) (fun _ i _=>es.length - (intOf i).toNat)
 case atStart=>exact ⟨0,Nat.zero_le _,rfl,aA (GE.nil _ _ _),aA (Below.refl _ _)⟩
 case round =>
  obtain ⟨j,hj,rfl,HG,HW⟩:=hrel;obtain ⟨lv,lc,hv⟩:=HG.out.shape;rw[eW hj]at hv;subst hv;have HA1:=aA (HA.out.below HW.out);have hsz:=HW.out.size;by_cases hlt:j<es.length
  ·obtain ⟨b,off,e,x,cc,rfl,hb,he,c0,c1,c2,c3,hr⟩:=HA1.out.at hlt
   have HX:=aA he;have HRc:=aA (hr.below (aC wr (.cells #[.int .i64 e.size,.slice x e.chunks.length cc,.string (str e.path),.int .i64 e.kind] 91)));have hsm:=HS.out e (List.mem_of_getElem? he);have BW2:=aA (aC wr (.cells #[.int .i64 e.size,.slice x e.chunks.length cc,.string (str e.path),.int .i64 e.kind] 91));have F4:=aA (cP.new wr (.int .i64 e.size) (.slice x e.chunks.length cc) (.string (str e.path)) (.int .i64 e.kind) 91);clear he hr;obtain ⟨rs,g1,g2,g3,g4,g5,g6⟩:=HG.out;have G1:=aA g1;have G2:=aA g2;have G3:=aA g3;have G4:=aA g4;clear g1 g2 g3 g4 g5 g6 HG
   have hj1:(es.take j).length=j:=eW hj;have hm1:j+1≤maxLen:=by unfold maxLen;omega
   have hm1':(j+1) * 56≤140737488355328:=by omega
   have G2':Hid (wr.ownsRow w.heap.size 87 4 (.slice lv j lc) j (aX rs)):=by have:=G2.out;rw[hj1]at this;exact this
   have HJ:=aA hj1;clear hj1;go_wp2_with fail
   clear c0 c1 c2 c3;have hbk:wr.heap.size<(wr.alloc (.cells #[.int .i64 e.size,.slice x e.chunks.length cc,.string (str e.path),.int .i64 e.kind] 91)).heap.size:=F4.out.lt;generalize wr.alloc (.cells #[.int .i64 e.size,.slice x e.chunks.length cc,.string (str e.path),.int .i64 e.kind] 91)=W2 at *;obtain ⟨bk,hbke⟩:∃ bk,bk=wr.heap.size:=⟨_,rfl⟩;rw[←hbke]at F4 hbk ⊢;have HBK:=aA hbke;clear hbke;have KC:Hid (∀ w':World,Below W2.heap.size W2 w'→w'.cell? ⟨bk,0,none⟩=some (.int .i64 e.size)∧w'.cell? ⟨bk,1,none⟩=some (.slice x e.chunks.length cc)∧w'.cell? ⟨bk,2,none⟩=some (.string (str e.path))∧w'.cell? ⟨bk,3,none⟩=some (.int .i64 e.kind)):=aA (fun w' hb'=>F4.out.below hb')
   have KD:Hid (∀ w2 w3:World,Below W2.heap.size W2 w2→aE (fun q=>(Value.slice lv j lc).ownBlock=some q) w2 w3→w3.cell? ⟨bk,0,none⟩=some (.int .i64 e.size)∧w3.cell? ⟨bk,1,none⟩=some (.slice x e.chunks.length cc)∧w3.cell? ⟨bk,2,none⟩=some (.string (str e.path))∧w3.cell? ⟨bk,3,none⟩=some (.int .i64 e.kind)):=aA (fun w2 w3 hb' hk'=>by
    have hn:¬ (Value.slice lv j lc).ownBlock=some bk:=fun hq=>by have:=(G2'.out.lt bk hq).2;have:=HBK.out;omega
    have hlt2:bk<w2.heap.size:=Nat.lt_of_lt_of_le hbk hb'.size;obtain ⟨q0,q1,q2,q3⟩:=KC.out w2 hb';exact ⟨(hk'.cell (p:=⟨bk,0,none⟩) hlt2 hn).trans q0,(hk'.cell (p:=⟨bk,1,none⟩) hlt2 hn).trans q1,(hk'.cell (p:=⟨bk,2,none⟩) hlt2 hn).trans q2,(hk'.cell (p:=⟨bk,3,none⟩) hlt2 hn).trans q3⟩)
   obtain ⟨f0,f1,f2,f3⟩:=F4.out;go_region_held3 (fun w'=>w'.cell? ⟨bk,0,none⟩=some (.int .i64 e.size)∧w'.cell? ⟨bk,1,none⟩=some (.slice x e.chunks.length cc)∧w'.cell? ⟨bk,2,none⟩=some (.string (str e.path))∧w'.cell? ⟨bk,3,none⟩=some (.int .i64 e.kind)) (first | exact KC.out _ BB1.out | exact KC.out _ BB2.out | exact KD.out _ _ BB2.out K3.out | go_keep)
    ((
     first
     | (go_at_call 70;refine (nQ _ _ (by rw[aN];omega)).mono ?_;rintro r w1 ⟨rfl,hb1⟩;have BB1:=aA ((Below.refl W2.heap.size W2).drew.trans hb1);clear hb1)
     | (go_at_call 143;refine (zV _ _ _ _ _ (HRc.out.below BB1.out) hsm.2).mono ?_;rintro r w2 ⟨av2,cv2,rfl,ho2,hb2⟩;have O2:=aA ho2;have BB2:=aA (aB BB1.out hb2);clear ho2 hb2)
     | (refine aY (by rfl) (.tmp 12) (.tmp 25) 40 (by rfl) w.heap.size 87 i1 (.agg #[.string ⟨#[]⟩,.int .i64 0,.int .i64 0,.slice none 0 0]) 4 56 Tryz.underlying40 ki kz0 kz1 kz2 rfl (by decide) (.slice lv j lc) j (aX rs) (by rfl) ((aJ G2'.out (aB BW2.out BB2.out)).alloc _) ⟨w2.heap.size,0,none⟩ 1 1 (bZ ⟨e,av2,cv2⟩) (by rfl) (by rfl) (uN rfl) (jE [⟨e,av2,cv2⟩]) (j+1) rfl hm1 hm1' (by have:=BW2.out.size;have:=BB2.out.size;simp;omega) ?_;intro av3 cv3 w3 hown3 hk3;have O3:=aA hown3;have K3:=aA (((aE.refl (fun q=>(Value.slice lv j lc).ownBlock=some q) w2).alloc _).trans hk3);clear hown3 hk3)))
   go_wp2_with fail
   go_roundw
   case rel =>
    have hs1:=BW2.out.size;have hs2:=BB1.out.size;have hs3:=BB2.out.size;refine ⟨j+1,by omega,by go_num,aA ?_,aA ?_⟩
    ·rw[bQ HX.out]
     exact GE.push G1.out G2.out G3.out G4.out hsz (aB BW2.out BB2.out) (aW O2.out (by omega)) (by rw[HJ.out];exact O3.out) K3.out
    ·exact (aB HW.out (aB BW2.out BB2.out)).trans (K3.out.below (by omega) (fun k hk hx=>by have:=(G2'.out.lt k hx).1;omega))
   case measure=>simp[intOf];omega
  ·have hje:j=es.length:=by omega
   have HE:=aA (show es.take j=es from List.take_of_length_le (by omega))
   have HG2:Hid (GE w.heap.size wr.heap.size wr (.slice lv j lc) es):=by have:=HG.out;rw[HE.out]at this;exact this
   clear HG HE;subst hje;go_wp2_with fail
   go_ret
   exact ⟨_,_,rfl,HG2.out,HW.out⟩
end Go.Proofs.YtgaeikgoknoamaaGreat
namespace Go.Proofs.YtgaeikgoknoamaaGreat
open Go.RowKit Go.Maps
theorem En.same {e f:En} (h0:e.path=f.path) (h1:e.kind=f.kind) (h2:e.size=f.size) (h3:e.chunks=f.chunks):e=f:=by
 cases e;cases f;simp_all
theorem zzi {es fs:List En} {j:Nat} {e f:En} (he:es[j]?=some e) (hf:fs[j]?=some f) (h:e≠f):decide (es=fs)=false:=by
 apply decide_eq_false
 intro e1;rw[e1,hf]at he;exact h (Option.some.inj he).symm
theorem zee {α:Type} {es fs:List α} {j:Nat} {e f:α} (he:es[j]?=some e) (hf:fs[j]?=some f) (h:es.take j=fs.take j) (hx:e=f):es.take (j+1)=fs.take (j+1):=by
 rw[bQ he,bQ hf,h,hx]
theorem zfb {α:Type} {es fs:List α} {j:Nat} (h:es.take j=fs.take j) (h1:es.length≤j) (h2:fs.length≤j):es=fs:=by
 rwa [List.take_of_length_le h1,List.take_of_length_le h2]at h
end Go.Proofs.YtgaeikgoknoamaaGreat
namespace Go.Proofs.YtgaeikgoknoamaaGreat
open Go.ChangeShapes Go.WideShapes Go.ChangeAt Go.RowKit
def mS (w:World) (b:Nat) (u0 u1 u2 u3:Value):Prop:=cP w b u0 u1 u2 u3∧∀ i,w.frozen? ⟨b,i,none⟩=false
theorem mS.new (w:World) (u0 u1 u2 u3:Value) (t:TypeId):mS (w.alloc (.cells #[u0,u1,u2,u3] t)) w.heap.size u0 u1 u2 u3:=⟨cP.new w u0 u1 u2 u3 t,fun i=>by simp⟩
theorem mS.below {w w':World} {b:Nat} {u0 u1 u2 u3:Value} (h:mS w b u0 u1 u2 u3) (hk:Below w.heap.size w w'):mS w' b u0 u1 u2 u3 :=
 ⟨h.1.below hk,fun i=>(hk.frozen (p:=⟨b,i,none⟩) h.1.lt).trans (h.2 i)⟩
end Go.Proofs.YtgaeikgoknoamaaGreat
namespace Go.Proofs.YtgaeikgoknoamaaGreat
open Go.RowKit Go.Maps
attribute [local go_sem ↓] Go.wp_at_zero Go.wp_at_succ
def fP (p t:Bs):Bool:=decide (p=t)||eG p t
theorem yV (p t:Bs) (k z:Int) (a:Option Addr) (n c:Nat) (w:World) (hp:p.length≤1048576) :
  Calls Tryz.prog 182 #[.agg #[.int .i64 z,.slice a n c,.string (str p),.int .i64 k],.string (str t)] w fun r w'=>r=.returned (.bool (fP p t))∧Below w.heap.size w w':=by
 have HB:=aA (aC w (.cells #[.int .i64 z,.slice a n c,.string (str p),.int .i64 k] 91));by_cases h:p=t
 ·have hs1:=iD h
  have HE:=aA (show fP p t=true from by simp[fP,h])
  clear h;generalize fP p t=Z at HE ⊢;go_enter Tryz.func182,Tryz.ntmps182;go_wp2_with fail
  go_ret
  exact ⟨cE HE.out.symm,HB.out⟩
 ·have hs1:=jK h
  have HE:=aA (show fP p t=eG p t from by simp[fP,h])
  clear h;generalize fP p t=Z at HE ⊢;go_enter Tryz.func182,Tryz.ntmps182;go_wp2_with fail
  refine (pW _ _ _ (by rw[aN];omega)).mono ?_
  rintro r w1 ⟨rfl,hb1⟩;rw[aV,aV,←HE.out];have HB1:=aA (aB HB.out hb1);clear hb1 HE;go_wp2_with fail
  cases Z
  ·go_ret
   exact ⟨rfl,HB1.out⟩
  ·go_ret
   exact ⟨rfl,HB1.out⟩
def zva (es:List En) (p:Bs):List En:=es.filter fun e=>!(fP e.path p)
theorem zrd (es:List En) (p:Bs):(zva es p).length≤es.length:=List.length_filter_le _ _
end Go.Proofs.YtgaeikgoknoamaaGreat
namespace Go.Proofs.YtgaeikgoknoamaaGreat
open Go.RowKit Go.Maps
def dR (es:List En) (e:En):Int :=
 if bY es=0 then (if aH e=0 then (if eB es e.path then (if 12<(cZ es e).length then 2 else 0) else 9) else aH e) else bY es
def fQ (es:List En) (e:En):List En:=if dR es e=0 then cZ es e else []
theorem yD (a:Option Addr) (c n:Nat) (es:List En) (e:En) (x:Option Addr) (m cc:Nat) (w:World) (h:RdE w a es) (hn:n=es.length) (hl:es.length<1048576) (hs:bJ es) (hm:m=e.chunks.length) (hr:aZ .i64 w x e.chunks) (hp:e.path.length≤1048576) (hcl:e.chunks.length≤1048576) :
  Calls Tryz.prog 192 #[.slice a n c,.agg #[.string (str e.path),.int .i64 e.kind,.int .i64 e.size,.slice x m cc]] w (qO (dR es e) (fQ es e) w):=by
 subst hn;subst hm;have HF:=aA (fun u hb=>lE a c es.length es u (h.below hb) rfl (by omega) hs)
 have HEf:=aA (fun u (hb:Below w.heap.size w u)=>kP e x cc e.chunks.length u (hr.below hb) rfl hp hcl)
 have HHo:=aA (fun u hb h1=>sB a c es.length es e.path u (h.below hb) rfl (by omega) h1 hp)
 have HPu:=aA (fun u hb=>nX a c es.length es e x e.chunks.length cc u (h.below hb) rfl hl hs rfl (hr.below hb) hp hcl)
 clear h hs hr;go_enter Tryz.func192,Tryz.ntmps192;go_wp2_with fail
 have B0:=aA (aB (aC w (.cells #[.string (str e.path),.int .i64 e.kind,.int .i64 e.size,.slice x e.chunks.length cc] 87)) (aC _ (.cells #[.int .i64 0,.slice none 0 0] 190)));have F0:=aA ((cP.new w (.string (str e.path)) (.int .i64 e.kind) (.int .i64 e.size) (.slice x e.chunks.length cc) 87).below (aC _ (.cells #[.int .i64 0,.slice none 0 0] 190)));have X0:=aA (Box.new (w.alloc (.cells #[.string (str e.path),.int .i64 e.kind,.int .i64 e.size,.slice x e.chunks.length cc] 87)) (.int .i64 0) (.slice none 0 0) 190);have hsz0:(w.alloc (.cells #[.string (str e.path),.int .i64 e.kind,.int .i64 e.size,.slice x e.chunks.length cc] 87)).heap.size=w.heap.size+1:=by simp
 rw[hsz0]at X0;clear hsz0;generalize (w.alloc (.cells #[.string (str e.path),.int .i64 e.kind,.int .i64 e.size,.slice x e.chunks.length cc] 87)).alloc (.cells #[.int .i64 0,.slice none 0 0] 190)=w0 at *;have hrb:w.heap.size≤w.heap.size+1:=Nat.le_succ _;generalize hbk:w.heap.size+1=rb at *;have HRB:=aA hrb;clear hrb hbk;refine (HF.out _ B0.out).mono ?_;rintro r w1 ⟨rfl,hb1⟩;have B1:=aA (aB B0.out hb1);have F1:=aA (F0.out.below hb1);have X1:=aA (X0.out.below hb1);clear hb1 B0 F0 X0 HF;by_cases hz:bY es=0
 ·rw[hz]
  obtain ⟨f0,f1,f2,f3⟩:=F1.out;go_wp2_with fail
  refine (HEf.out _ B1.out).mono ?_;rintro r w2 ⟨rfl,hb2⟩;have B2:=aA (aB B1.out hb2);have X2:=aA (X1.out.below hb2);have F2:=aA (F1.out.below hb2);clear hb2 f0 f1 f2 f3 F1 X1 B1 HEf;by_cases he:aH e=0
  ·rw[he]
   have hpos:=sN (bO he);obtain ⟨f0,f1,f2,f3⟩:=F2.out;go_wp2_with fail
   refine (HHo.out _ B2.out hpos).mono ?_;rintro r w3 ⟨rfl,hb3⟩;have B3:=aA (aB B2.out hb3);have X3:=aA (X2.out.below hb3);have F3:=aA (F2.out.below hb3);clear hb3 f0 f1 f2 f3 F2 X2 B2 HHo;cases hh:eB es e.path
   ·have HC:=aA (show dR es e=9∧fQ es e=[] from by
     have:dR es e=9:=by simp[dR,hz,he,hh]
     exact ⟨this,by simp[fQ,this]⟩)
    clear hh hz he;obtain ⟨⟨t0,t1⟩,t2,t3⟩:=X3.out;go_wp2_with fail
    exact bodyPost_ret (v:=.agg #[.int .i64 9,.slice none 0 0]) (by simp[results,Tryz.results192,go_sem,t0,t1]) rfl (by rw[HC.out.1,HC.out.2];exact qO.bad HRB.out B3.out)
   ·have HC0:=aA (show dR es e=(if 12<(cZ es e).length then 2 else 0) from by simp[dR,hz,he,hh])
    clear hh hz he;obtain ⟨f0,f1,f2,f3⟩:=F3.out;go_wp2_with fail
    refine (HPu.out _ B3.out).mono ?_;rintro r w4 ⟨g,cv,rfl,hG,hb4⟩;have hlt0:=X3.out.1.lt;have B4:=aA (aB B3.out hb4);obtain ⟨⟨t0,t1⟩,t2,t3⟩:=X3.out.below hb4;have GG:=aA hG;clear hG hb4 f0 f1 f2 f3 F3 X3 HPu;by_cases hq:12<(cZ es e).length
    ·have HC:=aA (show dR es e=2∧fQ es e=[] from by
      have:dR es e=2:=by rw[HC0.out,if_pos hq]
      exact ⟨this,by simp[fQ,this]⟩)
     have hq2:(12:Int)<((cZ es e).length:Int):=by omega
     go_wp2_with fail
     exact bodyPost_ret (v:=.agg #[.int .i64 2,.slice none 0 0]) (by simp[results,Tryz.results192,go_sem,t0,t1]) rfl (by rw[HC.out.1,HC.out.2];exact qO.bad HRB.out B4.out)
    ·have HC:=aA (show dR es e=0∧fQ es e=cZ es e from by
      have:dR es e=0:=by rw[HC0.out,if_neg hq]
      exact ⟨this,by simp[fQ,this]⟩)
     have hq2:¬ (12:Int)<((cZ es e).length:Int):=by omega
     go_wp2_with fail
     exact bodyPost_ret (v:=.agg #[.int .i64 0,.slice (some ⟨g,0,none⟩) (cZ es e).length cv]) (by simp[results,Tryz.results192,go_sem,t0,t1]) rfl (by rw[HC.out.1,HC.out.2];exact qO.of (w2:=w3) hlt0 HRB.out rfl GG.out B4.out)
  ·have HC:=aA (show dR es e=aH e∧fQ es e=[] from by
    have:dR es e=aH e:=by simp[dR,hz,he]
    exact ⟨this,by simp[fQ,this,he]⟩)
   generalize aH e=F at *;have hz2:(F != 0)=true:=by simp;exact he
   clear he hz;obtain ⟨⟨t0,t1⟩,t2,t3⟩:=X2.out;go_wp2_with fail
   exact bodyPost_ret (v:=.agg #[.int .i64 F,.slice none 0 0]) (by simp[results,Tryz.results192,go_sem,t0,t1]) rfl (by rw[HC.out.1,HC.out.2];exact qO.bad HRB.out B2.out)
 ·have HC:=aA (show dR es e=bY es∧fQ es e=[] from by
   have:dR es e=bY es:=by simp[dR,hz]
   exact ⟨this,by simp[fQ,this,hz]⟩)
  generalize bY es=F at *;have hz2:(F != 0)=true:=by simp;exact hz
  clear hz;obtain ⟨⟨t0,t1⟩,t2,t3⟩:=X1.out;go_wp2_with fail
  exact bodyPost_ret (v:=.agg #[.int .i64 F,.slice none 0 0]) (by simp[results,Tryz.results192,go_sem,t0,t1]) rfl (by rw[HC.out.1,HC.out.2];exact qO.bad HRB.out B1.out)
end Go.Proofs.YtgaeikgoknoamaaGreat
namespace Go.Proofs.YtgaeikgoknoamaaGreat
theorem fR:∀ a:Bs,Op.bytesLess a a=false
 | []=>rfl
 | c :: a=>by simp[Op.bytesLess,fR a]
theorem iF:∀ a b c:Bs,Op.bytesLess a b=true→Op.bytesLess b c=true→Op.bytesLess a c=true
 | a,[],c,h,_=>by cases a <;> simp[Op.bytesLess]at h
 | [],b :: bs,[],_,h2=>by simp[Op.bytesLess]at h2
 | [],b :: bs,c :: cs,_,_=>by simp[Op.bytesLess]
 | a :: xs,b :: ys,[],_,h2=>by simp[Op.bytesLess]at h2
 | a :: xs,b :: ys,c :: zs,h1,h2=>by
  simp only[Op.bytesLess,Bool.or_eq_true,decide_eq_true_eq,Bool.and_eq_true,beq_iff_eq]at h1 h2 ⊢;rcases h1 with h1 | ⟨rfl,h1⟩
  ·rcases h2 with h2 | ⟨rfl,h2⟩
   ·exact .inl (UInt8.lt_trans h1 h2)
   ·exact .inl h1
  ·rcases h2 with h2 | ⟨rfl,h2⟩
   ·exact .inl h2
   ·exact .inr ⟨rfl,iF xs ys zs h1 h2⟩
theorem iZ:∀ a b:Bs,Op.bytesLess a b=false→a≠b→Op.bytesLess b a=true
 | [],[],_,h=>absurd rfl h
 | [],b :: bs,h,_=>by simp[Op.bytesLess]at h
 | a :: xs,[],_,_=>by simp[Op.bytesLess]
 | a :: xs,b :: ys,h,hn=>by
  simp only[Op.bytesLess,Bool.or_eq_false_iff,decide_eq_false_iff_not,Bool.and_eq_false_iff,beq_eq_false_iff_ne]at h;simp only[Op.bytesLess,Bool.or_eq_true,decide_eq_true_eq,Bool.and_eq_true,beq_iff_eq];by_cases e:a=b
  ·subst e
   refine .inr ⟨rfl,iZ xs ys ?_ (fun x=>hn (by rw[x]))⟩
   rcases h.2 with h2 | h2
   ·exact absurd rfl h2
   ·exact h2
  ·refine .inl ?_
   have h1:=h.1;rw[UInt8.lt_iff_toNat_lt]at h1 ⊢;have:a.toNat≠b.toNat:=fun x=>e (UInt8.toNat_inj.1 x)
   omega
theorem iE {a b:Bs} (h:Op.bytesLess a b=true):Op.bytesLess b a=false:=by
 cases h2:Op.bytesLess b a
 ·rfl
 ·have:=iF a b a h h2
  rw[fR]at this;cases this
theorem kD {a b:Bs} (h:Op.bytesLess a b=true):a≠b:=fun e=>by rw[e,fR]at h;cases h
def fG (es:List En):Prop:=es.Pairwise fun x y=>Op.bytesLess x.path y.path=true
theorem ze1 {q e:En} (h:gL (some q) e=false):Op.bytesLess q.path e.path=true:=by
 simp only[gL,Bool.or_eq_false_iff,beq_eq_false_iff_ne]at h;exact iZ _ _ h.1 h.2
theorem zrh {q e:En} (h:Op.bytesLess q.path e.path=true):gL (some q) e=false:=by
 simp only[gL,Bool.or_eq_false_iff,beq_eq_false_iff_ne];exact ⟨iE h,fun x=>kD h x.symm⟩
theorem lI {H:Bs→Bool}:∀ {l:List En} {prev:Option En},cC H prev l=0↔(∀ e∈l,aH e=0∧H e.path=true)∧fG l∧∀ q,prev=some q→∀ e∈l,Op.bytesLess q.path e.path=true
 | [],prev=>by simp[cC,fG]
 | x :: r,prev=>by
  have ih:=lI (H:=H) (l:=r) (prev:=some x);have hx:dC H prev x=0↔aH x=0∧gL prev x=false∧H x.path=true:=by
   unfold dC;by_cases h1:aH x=0
   ·simp only[h1,if_true,true_and]
    cases h2:gL prev x
    ·cases h3:H x.path <;> simp
    ·simp
   ·simp[h1]
  simp only[cC];by_cases hb:dC H prev x=0
  ·rw[if_pos hb,ih]
   obtain ⟨h1,h2,h3⟩:=hx.1 hb;constructor
   ·rintro ⟨a1,a2,a3⟩
    refine ⟨fun e he=>?_,List.pairwise_cons.2 ⟨fun e he=>a3 x rfl e he,a2⟩,fun q hq e he=>?_⟩
    ·rcases List.mem_cons.1 he with rfl | he
     ·exact ⟨h1,h3⟩
     ·exact a1 e he
    ·subst hq
     have:=ze1 h2;rcases List.mem_cons.1 he with rfl | he
     ·exact this
     ·exact iF _ _ _ this (a3 x rfl e he)
   ·rintro ⟨a1,a2,a3⟩
    refine ⟨fun e he=>a1 e (List.mem_cons_of_mem _ he),(List.pairwise_cons.1 a2).2,fun q hq e he=>?_⟩
    cases hq
    exact (List.pairwise_cons.1 a2).1 e he
  ·rw[if_neg hb]
   constructor
   ·intro h;exact absurd h hb
   ·rintro ⟨a1,a2,a3⟩
    exfalso
    refine hb (hx.2 ⟨(a1 x List.mem_cons_self).1,?_,(a1 x List.mem_cons_self).2⟩);cases prev with
    | none=>rfl
    | some q=>exact zrh (a3 q rfl x List.mem_cons_self)
theorem eJ {es:List En} (h:fG es) {e:En} (he:e∈es):aL es e.path=some e:=by
 induction es with
 | nil=>simp at he
 | cons x r ih =>
  have hp:=List.pairwise_cons.1 h;rcases List.mem_cons.1 he with rfl | he
  ·simp[aL]
  ·have:=hp.1 e he
   rw[aL,List.find?_cons];have hn:x.path≠e.path:=kD this;simp only[hn,decide_false];exact ih hp.2 he
theorem eR {es:List En} {p:Bs} {e:En} (h:aL es p=some e):e∈es∧e.path=p:=by
 refine ⟨List.mem_of_find?_eq_some h,?_⟩
 have:=List.find?_some h;simpa using this
theorem lW {es:List En} {p:Bs} (h:∀ e∈es,e.path≠p):aL es p=none:=by
 rw[aL,List.find?_eq_none];intro e he;simpa using h e he
theorem dS {es:List En} {p:Bs}:cI es p=true↔aF p=[]∨∃ d∈es,d.path=aF p∧cG d.kind=true:=by
 unfold cI cU;by_cases h:aF p=[]
 ·simp[h]
 ·simp[h]
theorem lM {es:List En} (h:fG es) (p:Bs):cI es p=eB es p:=by
 unfold cI eB;by_cases h0:aF p=[]
 ·simp[h0]
 ·rw[if_neg h0,if_neg h0]
  cases hf:aL es (aF p) with
  | none =>
   rw[cU,List.any_eq_false];intro x hx;have:=List.find?_eq_none.1 hf x hx;simp only[decide_eq_true_eq]at this;simp[this]
  | some d =>
   obtain ⟨hd,hdp⟩:=eR hf;cases hk:cG d.kind
   ·show cU es (aF p)=cG d.kind
    rw[hk,cU,List.any_eq_false];intro x hx;by_cases hxp:x.path=aF p
    ·have:=eJ h hx
     rw[hxp,hf]at this;cases this
     simp[hk]
    ·simp[hxp]
   ·show cU es (aF p)=cG d.kind
    rw[hk,cU,List.any_eq_true];exact ⟨d,hd,by simp[hdp,hk]⟩
structure bD (es:List En):Prop where
 len:es.length≤12
 ent:∀ e∈es,aH e=0
 rise:fG es
 home:∀ e∈es,cI es e.path=true
theorem dM {es:List En}:aQ es=0↔bD es:=by
 unfold aQ;by_cases h:12<es.length
 ·rw[if_pos h]
  exact ⟨fun x=>(by cases x),fun x=>(by have:=x.len;omega)⟩
 ·rw[if_neg h,lI]
  exact ⟨fun ⟨a,b,_⟩=>⟨by omega,fun e he=>(a e he).1,b,fun e he=>(a e he).2⟩,fun x=>⟨fun e he=>⟨x.ent e he,x.home e he⟩,x.rise,fun q hq=>by cases hq⟩⟩
theorem mX {H H':Bs→Bool}:∀ {l:List En} {prev:Option En},(∀ e∈l,aH e=0→H e.path=H' e.path)→cC H prev l=cC H' prev l
 | [],_,_=>rfl
 | x :: r,prev,h=>by
  have hx:dC H prev x=dC H' prev x:=by
   unfold dC;by_cases h1:aH x=0
   ·rw[h x List.mem_cons_self h1]
   ·simp[h1]
  simp only[cC];rw[hx,mX (l:=r) (prev:=some x) (fun e he=>h e (List.mem_cons_of_mem _ he))]
theorem mZ {es:List En}:bY es=0↔bD es:=by
 unfold bY;by_cases h:12<es.length
 ·rw[if_pos h]
  exact ⟨fun x=>(by cases x),fun x=>(by have:=x.len;omega)⟩
 ·rw[if_neg h,uH,lI]
  exact ⟨fun ⟨a,b,_⟩=>⟨by omega,fun e he=>(a e he).1,b,fun e he=>by rw[lM b];exact (a e he).2⟩,fun x=>⟨fun e he=>⟨x.ent e he,by rw[←lM x.rise];exact x.home e he⟩,x.rise,fun q hq=>by cases hq⟩⟩
theorem mG {p t:Bs}:bE p t=true↔∃ r,r≠[]∧p=t++47 :: r:=by
 simp only[bE,Bool.and_eq_true,decide_eq_true_eq,beq_iff_eq];constructor
 ·rintro ⟨⟨hl,ht⟩,hh⟩
  cases e:p.drop t.length with
  | nil=>rw[e]at hh;simp at hh
  | cons c r =>
   rw[e]at hh;simp at hh
   subst hh;refine ⟨r,?_,?_⟩
   ·intro h0
    have:=congrArg List.length e;rw[List.length_drop,h0]at this;simp at this
    omega
   ·rw[←e]
    conv=>lhs;rw[←List.take_append_drop t.length p,ht]
 ·rintro ⟨r,hr,rfl⟩
  have:=List.length_pos_iff.2 hr;simp
  first | done | omega
theorem nE {p q t:Bs} (h1:bE p q=true) (h2:bE q t=true):bE p t=true:=by
 obtain ⟨r,hr,rfl⟩:=mG.1 h1;obtain ⟨s,hs,rfl⟩:=mG.1 h2;exact mG.2 ⟨s++47 :: r,by simp,by simp⟩
theorem eQ {p t:Bs} (h:bE p t=true):t.length<p.length:=by
 obtain ⟨r,hr,rfl⟩:=mG.1 h;simp
theorem dX {p:Bs} (hp:aG p=0) (h:aF p≠[]):aG (aF p)=0∧bE p (aF p)=true:=by
 have hm:aF p∈bH (bB p.tail):=by
  have hne:bH (bB p.tail)≠[]:=fun e=>h (lF.2 e)
  unfold aF;rw[List.getLastD_eq_getLast?,List.getLast?_eq_some_getLast hne];exact List.getLast_mem _
 exact (jL hp).1 hm
theorem oO {p t:Bs} (hp:aG p=0) (ht:aG t=0):eG p t=bE p t:=by
 rw[kL hp];cases h:bE p t <;> simp[ht]
theorem lX {bs:List En} {e x:En}:x∈dK bs e↔x=e∨x∈bs:=by
 have hb:x∈bs↔x∈bs.take (kC bs e.path)∨x∈bs.drop (kC bs e.path):=by
  conv=>lhs;rw[←List.take_append_drop (kC bs e.path) bs]
  exact List.mem_append
 unfold dK;rw[List.mem_append,List.mem_cons,hb];exact ⟨fun h=>h.elim (fun h=>.inr (.inl h)) (fun h=>h.elim .inl (fun h=>.inr (.inr h))),fun h=>h.elim (fun h=>.inr (.inl h)) (fun h=>h.elim .inl (fun h=>.inr (.inr h)))⟩
theorem jC {es:List En} {e x:En}:x∈cZ es e↔x=e∨(x∈es∧iR e x=true):=by
 rw[cZ,lX,gZ,List.mem_filter]
theorem zn4 {p:Bs}:∀ (bs:List En),∀ x∈bs.take (kC bs p),Op.bytesLess x.path p=true
 | [],x,hx=>by simp[kC]at hx
 | b :: bs,x,hx=>by
  unfold kC at hx;rw[List.takeWhile_cons]at hx;cases h:Op.bytesLess b.path p
  ·rw[h]at hx;simp at hx
  ·rw[h]at hx
   simp only[if_true,List.length_cons,List.take_succ_cons,List.mem_cons]at hx;rcases hx with rfl | hx
   ·exact h
   ·exact zn4 bs x hx
theorem xN {p:Bs}:∀ (bs:List En),fG bs→(∀ x∈bs,x.path≠p)→∀ x∈bs.drop (kC bs p),Op.bytesLess p x.path=true
 | [],_,_,x,hx=>by simp at hx
 | b :: bs,hr,hn,x,hx=>by
  unfold kC at hx;rw[List.takeWhile_cons]at hx;cases h:Op.bytesLess b.path p
  ·rw[h]at hx
   simp only[if_false,Bool.false_eq_true,List.length_nil,List.drop_zero]at hx;have hb:=iZ _ _ h (hn b List.mem_cons_self);rcases List.mem_cons.1 hx with rfl | hx
   ·exact hb
   ·exact iF _ _ _ hb ((List.pairwise_cons.1 hr).1 x hx)
  ·rw[h]at hx
   simp only[if_true,List.length_cons,List.drop_succ_cons]at hx;exact xN bs (List.pairwise_cons.1 hr).2 (fun y hy=>hn y (List.mem_cons_of_mem _ hy)) x hx
theorem oV {bs:List En} {e:En} (h:fG bs) (hn:∀ x∈bs,x.path≠e.path):fG (dK bs e):=by
 unfold dK fG;rw[List.pairwise_append];refine ⟨h.sublist (List.take_sublist _ _),List.pairwise_cons.2 ⟨fun x hx=>xN bs h hn x hx,h.sublist (List.drop_sublist _ _)⟩,fun x hx y hy=>?_⟩
 have h1:=zn4 bs x hx;rcases List.mem_cons.1 hy with rfl | hy
 ·exact h1
 ·exact iF _ _ _ h1 (xN bs h hn y hy)
theorem zyd {es:List En} {e:En} (h:fG es):fG (cZ es e):=by
 refine oV (h.sublist List.filter_sublist) (fun x hx=>?_)
 have:=(List.mem_filter.1 hx).2;simp only[iR,Bool.and_eq_true,Bool.not_eq_true',decide_eq_false_iff_not]at this;exact this.1
theorem zt1 {es:List En} {e:En} (h:bD es) (he:aH e=0) (hh:cI es e.path=true) (hl:(cZ es e).length≤12):bD (cZ es e):=by
 have hpe:=bO he;refine ⟨hl,fun x hx=>?_,zyd h.rise,fun x hx=>?_⟩
 ·rcases jC.1 hx with rfl | ⟨hx,_⟩
  ·exact he
  ·exact h.ent x hx
 ·rw[dS]
  rcases jC.1 hx with rfl | ⟨hx,hk⟩
  ·rcases dS.1 hh with h0 | ⟨d,hd,hdp,hdk⟩
   ·exact .inl h0
   ·by_cases h0:aF x.path=[]
    ·exact .inl h0
    ·have hb:=(dX hpe h0).2
     have hlen:=eQ hb;refine .inr ⟨d,jC.2 (.inr ⟨hd,?_⟩),hdp,hdk⟩;have h1:d.path≠x.path:=fun e=>by rw[hdp]at e;rw[e]at hlen;omega
     have h2:bE d.path x.path=false:=by
      cases h3:bE d.path x.path
      ·rfl
      ·have:=eQ h3;rw[hdp]at this;omega
     simp[iR,h1,h2]
  ·have hpx:=bO (h.ent x hx)
   rcases dS.1 (h.home x hx) with h0 | ⟨d,hd,hdp,hdk⟩
   ·exact .inl h0
   ·by_cases h0:aF x.path=[]
    ·exact .inl h0
    ·have hb:=(dX hpx h0).2
     rw[←hdp]at hb;simp only[iR,Bool.and_eq_true,Bool.not_eq_true',decide_eq_false_iff_not,Bool.or_eq_true]at hk;by_cases hde:d.path=e.path
     ·rcases hk.2 with hk2 | hk2
      ·exact .inr ⟨e,jC.2 (.inl rfl),by rw[←hde];exact hdp,hk2⟩
      ·rw[hde]at hb;rw[hb]at hk2;cases hk2
     ·refine .inr ⟨d,jC.2 (.inr ⟨hd,?_⟩),hdp,hdk⟩
      simp only[iR,Bool.and_eq_true,Bool.not_eq_true',decide_eq_false_iff_not,Bool.or_eq_true];refine ⟨hde,hk.2.elim .inl (fun hk2=>.inr ?_)⟩
      cases h3:bE d.path e.path
      ·rfl
      ·rw[nE hb h3]at hk2;cases hk2
theorem zya {es:List En} {p:Bs} (h:bD es) (hp:aG p=0):bD (zva es p):=by
 refine ⟨Nat.le_trans (zrd es p) h.len,fun x hx=>h.ent x (List.mem_filter.1 hx).1,h.rise.sublist List.filter_sublist,fun x hx=>?_⟩
 obtain ⟨hx,hk⟩:=List.mem_filter.1 hx;have hpx:=bO (h.ent x hx);rw[dS];rcases dS.1 (h.home x hx) with h0 | ⟨d,hd,hdp,hdk⟩
 ·exact .inl h0
 ·by_cases h0:aF x.path=[]
  ·exact .inl h0
  ·have hb:=(dX hpx h0).2
   rw[←hdp]at hb;have hpd:=bO (h.ent d hd);refine .inr ⟨d,List.mem_filter.2 ⟨hd,?_⟩,hdp,hdk⟩;simp only[fP,oO hpx hp,Bool.not_eq_true',Bool.or_eq_false_iff,decide_eq_false_iff_not]at hk;simp only[fP,oO hpd hp,Bool.not_eq_true',Bool.or_eq_false_iff,decide_eq_false_iff_not];refine ⟨fun e=>?_,?_⟩
   ·rw[e]at hb;rw[hb]at hk;exact absurd hk.2 (by simp)
   ·cases h3:bE d.path p
    ·rfl
    ·rw[nE hb h3]at hk;exact absurd hk.2 (by simp)
theorem zs1:bD []:=⟨by simp,fun e he=>by simp at he,List.Pairwise.nil,fun e he=>by simp at he⟩
def eT (es:List En) (e:En):Int :=
 if aQ es=0 then (if aH e=0 then (if cI es e.path then (if 12<(cZ es e).length then 2 else 0) else 9) else aH e) else aQ es
def gA (es:List En) (e:En):List En:=if eT es e=0 then cZ es e else []
theorem uS {es:List En} {e:En} (h:eT es e=0):bD es∧aH e=0∧cI es e.path=true∧(cZ es e).length≤12∧bD (cZ es e):=by
 unfold eT at h;by_cases h1:aQ es=0
 ·rw[if_pos h1]at h
  by_cases h2:aH e=0
  ·rw[if_pos h2]at h
   cases h3:cI es e.path
   ·rw[h3]at h;simp at h
   ·rw[h3]at h
    by_cases h4:12<(cZ es e).length
    ·rw[if_pos rfl,if_pos h4]at h;cases h
    ·have hR:=dM.1 h1
     exact ⟨hR,h2,rfl,by omega,zt1 hR h2 h3 (by omega)⟩
  ·rw[if_neg h2]at h;exact absurd h h2
 ·rw[if_neg h1]at h;exact absurd h h1
def zt2 (es:List En):Prop:=aQ es=bY es
theorem zkc {es:List En} (h:12<es.length):zt2 es:=by rw[zt2,rG h,tE h]
theorem zlh {es:List En} (h:¬ 12<es.length) (hh:cC (cI es) none es=cC (eB es) none es):zt2 es:=by
 rw[zt2,aQ,bY,if_neg h,if_neg h,uH,hh]
theorem uQ {p:Bs} (h:aG p=0) (h0:aF p≠[]):aF p≠p:=by
 have:=eQ (dX h h0).2;intro e;rw[e]at this;omega
end Go.Proofs.YtgaeikgoknoamaaGreat
namespace Go.Proofs.YtgaeikgoknoamaaGreat
open Go.RowKit
def zb8 (h z:Int):Int:=bits BinOp.xor IntKind.u32 h z * 16777619 % 4294967296
def fnv (zs:List Int):Int:=zs.foldl zb8 2166136261
def nT (zs:List Int):Int:=wrap64 (bits BinOp.xor IntKind.u32 (fnv zs) ((zs.length:Int) * 65536 % 4294967296))
theorem zaf {zs:List Int} {k:Nat} {z:Int} (hk:k<zs.length) (hz:zs.getD k 0=z):fnv (zs.take (k+1))=zb8 (fnv (zs.take k)) z:=by
 unfold fnv;rw[List.take_succ_eq_append_getElem hk,List.foldl_append];simp[List.getD_eq_getElem?_getD,hk]at hz
 simp[hz]
theorem xZ (a:Option Addr) (cap:Nat) (zs:List Int) (w:World) (h:aZ .u8 w a zs) (hu:U8 zs) (hl:zs.length≤1048576) :
  Calls Tryz.prog 105 #[.slice a zs.length cap] w fun e w'=>e=.returned (.int .i64 (nT zs))∧w'=w:=by
 go_enter Tryz.func105,Tryz.ntmps105;go_wp2
 go_loop [3,4] (fun h i=>∃ k:Nat,k≤zs.length∧i=.int .i64 k∧h=.int .u32 (fnv (zs.take k))) (fun _ i=>zs.length - (intOf i).toNat)
 case atStart=>exact ⟨0,Nat.zero_le _,rfl,rfl⟩
 case round =>
  obtain ⟨k,hk,rfl,rfl⟩:=hrel;generalize hx:fnv (zs.take k)=x;have HX:=aA hx;clear hx;by_cases hlt:k<zs.length
  ·obtain ⟨b,off,rfl,hb,hc⟩:=h (by intro e;simp[e]at hlt)
   have hz01:=hu.get k;have hc1:=hc k hlt;generalize hz:zs.getD k 0=z at hz01 hc1;have HZ:=aA hz;have HC:=aA hc;clear hc h hz;go_wp2
   go_round
   case rel=>exact ⟨k+1,by omega,by go_num,by rw[zaf hlt HZ.out,HX.out];rfl⟩
   case measure=>simp[intOf];omega
  ·go_wp2
   go_ret
   exact ⟨aO (by unfold nT;rw[←HX.out,List.take_of_length_le (by omega)]),rfl⟩
theorem zse (op:BinOp) (x y:Int):0≤bits op .u32 x y∧bits op .u32 x y<4294967296:=by
 unfold bits;simp only[IntKind.wrap_u32];omega
theorem tQ (zs:List Int):0≤nT zs∧nT zs≤4294967295:=by
 have h:=zse .xor (fnv zs) ((zs.length:Int) * 65536 % 4294967296);unfold nT wrap64;omega
theorem xU {w:World} {B:Nat} {e:TypeId} {k:IntKind} {g n c:Nat} {zs:List Int} (h:w.ownsRow B e 1 (.slice (some ⟨g,0,none⟩) n c) n (zs.map (Value.int k))) (hn:n=zs.length):Own k w (some ⟨g,0,none⟩) zs:=by
 intro hz;have h0:0<n:=by rw[hn];exact List.length_pos_iff.2 hz
 refine ⟨g,0,rfl,(h.lt g rfl).2,fun i hi=>⟨?_,h.frozenAt _⟩⟩
 rw[Nat.zero_add,h.cellAt i (by omega)]
 simp[List.getD_eq_getElem?_getD,hi]
theorem gY.shape {B:Nat} {w:World} {v:Value} {P:Nat→List Int} {j:Nat} (h:gY B w v P j):∃ a c,v=.slice a j c:=by
 obtain ⟨A,C,h1,h2,h3⟩:=h;exact aR h1
def G2 (B T:Nat) (w:World) (v:Value) (P:Nat→List Int) (n:Nat):Prop :=
 ∃ A C:Nat→Nat,w.ownsRow B 22 1 v n ((List.range n).map fun i=>.slice (some ⟨A i,0,none⟩) (P i).length (C i)) ∧
  (∀ i,i<n→w.ownsRow B 5 1 (.slice (some ⟨A i,0,none⟩) (P i).length (C i)) (P i).length ((P i).map (Value.int .u8))) ∧
  (∀ i i',i<n→i'<n→A i=A i'→i=i')∧(∀ i,i<n→A i<T)∧∀ b,v.ownBlock=some b→b<T
def zhj (k:Int) (P:Nat→List Int) (i:Nat):List Int:=zyi (k+zug P i) (P i).length
theorem U8.piece {zs:List Int} (h:U8 zs) (i:Nat):U8 (fC zs i):=fun z hz=>h z (List.mem_of_mem_drop (List.mem_of_mem_take hz))
theorem gY.at {B:Nat} {w:World} {a:Option Addr} {c:Nat} {P:Nat→List Int} {n j:Nat} (h:gY B w (.slice a n c) P n) (hj:j<n) :
  ∃ g x d,a=some ⟨g,0,none⟩∧w.cell? ⟨g,j,none⟩=some (.slice x (P j).length d)∧aZ .u8 w x (P j):=by
 obtain ⟨A,C,h1,h2,h3⟩:=h;rcases h1.2 with ⟨_,h0⟩ | ⟨g,cap,cur,h',hb,hh,_⟩
 ·omega
 ·simp only[Value.slice.injEq,true_and]at h'
  obtain ⟨rfl,rfl⟩:=h';refine ⟨g,_,C j,rfl,?_,(xU (h2 j hj) rfl).reads⟩;rw[h1.cellAt j (by omega)]
  simp[hj]
def G1 (B T:Nat) (w:World) (v:Value) (ds:List Int):Prop :=
 w.ownsRow B 2 1 v ds.length (ds.map (Value.int .i64))∧∀ b,v.ownBlock=some b→b<T
def lK (zs:List Int) (j:Nat):List Int:=(List.range j).map fun i=>nT (fC zs i)
theorem zub (zs:List Int) (j:Nat):(lK zs (j+1)).map (Value.int .i64)=(lK zs j).map (Value.int .i64) ++ [.int .i64 (nT (fC zs j))]:=by
 simp[lK,List.range_succ]
theorem gY.kept_own {B B':Nat} {w w':World} {v v':Value} {P:Nat→List Int} {n n' size:Nat} {e:TypeId} {xs:List Value} (h:gY B w v P n) (ho:w.ownsRow B' e size v' n' xs) (h1:e≠22) (h2:e≠5) (hk:aE (fun b=>v'.ownBlock=some b) w w'):gY B w' v P n:=by
 obtain ⟨A,C,k1,k2,k3⟩:=h;exact ⟨A,C,aK k1 hk (fun b hb hS=>cK ho k1 h1 hS hb),fun i hi=>aK (k2 i hi) hk (fun b hb hS=>cK ho (k2 i hi) h2 hS hb),k3⟩
theorem zl2 (a:Option Addr) (cap:Nat) (zs:List Int) (w:World) (h:aZ .u8 w a zs) (hu:U8 zs) (hcap:zs.length≤cap) (hl:zs.length≤24) :
  Calls Tryz.prog 101 #[.slice a zs.length cap] w fun e w'=>∃ v,e=.returned v∧w'.ownsRow w.heap.size 2 1 v (cut zs).length ((lK zs (cut zs).length).map (Value.int .i64))∧Below w.heap.size w w':=by
 obtain ⟨i1,ki,kz0,kz1,kz2⟩:=info_parts Tryz.infoI64;have HR:=aA h;have HU:=aA hu;clear h hu;have hcl:(cut zs).length≤3:=by rw[kS];omega
 go_enter Tryz.func101,Tryz.ntmps101;go_wp2_with fail
 refine (zwc a cap zs _ (HR.out.below (aC _ _)) hcap (by omega)).mono ?_
 rintro e w1 ⟨pv,rfl,hG,hb1⟩;obtain ⟨pa,pc,rfl⟩:=hG.shape;generalize hN:(cut zs).length=N at *;have HN:=aA hN;clear hN;have O1:=aA (aJ (World.ownsRow_made (base:=w.heap.size) (e:=2) (size:=1) w #[] 0 (Nat.le_refl _) (Nat.zero_le _) rfl) hb1);have HG:=aA (hG.mono (B':=w.heap.size) (by simp))
 have HB:=aA (aB (aC w (.cells #[] 2)) hb1);clear hG hb1;go_wp2_with fail
 go_loopw [3,5] (fun v i wr=>∃ j:Nat,j≤N∧i=.int .i64 j∧wr.ownsRow w.heap.size 2 1 v j ((lK zs j).map (Value.int .i64))∧gY w.heap.size wr (.slice pa N pc) (fC zs) N∧Below w.heap.size w wr) (fun _ i _=>N - (intOf i).toNat)
 case atStart=>exact ⟨0,Nat.zero_le _,rfl,O1.out,HG.out,HB.out⟩
 case round =>
  obtain ⟨j,hj,rfl,hown,hG,hbel⟩:=hrel;by_cases hlt:j<N
  ·obtain ⟨g,x,d,rfl,hc0,hr0⟩:=hG.at hlt
   have hpl:(fC zs j).length≤1048576:=by rw[gM];omega
   have hm1:j+1≤maxLen:=by unfold maxLen;omega
   have hm2:(j+1) * 8≤140737488355328:=by omega
   have hsz:=hbel.size;have HR0:=aA hr0;have HO:=aA hown;have HGj:=aA hG;have HBj:=aA hbel;clear hr0 hown hG hbel;go_wp2_with (first | (go_at_call 105;refine (xZ _ _ (fC zs j) _ HR0.out (HU.out.piece j) hpl).mono ?_;rintro e w1' ⟨rfl,rfl⟩) | (at_builtin;refine cH rfl (.tmp 15) (.tmp 21) 48 rfl w.heap.size 2 i1 (.int .i64 0) 1 8 Tryz.underlying48 ki kz0 kz1 kz2 rfl (by decide) _ _ _ rfl HO.out rfl rfl (by intro u hu;simp at hu;subst hu;rfl) hm1 hm2 hsz ?_;intro v' w2 hown2 hkept;have O2:=aA hown2;have K2:=aA hkept;clear hown2 hkept))
   go_roundw
   case rel=>exact ⟨j+1,by omega,by go_num,by rw[zub];exact O2.out,HGj.out.kept_own HO.out (by decide) (by decide) K2.out,aE.below_own HBj.out hsz HO.out K2.out⟩
   case measure=>simp[intOf];omega
  ·have hje:j=N:=by omega
   subst hje;go_wp2
   go_ret
   exact ⟨_,rfl,by rw[HN.out];exact hown,hbel⟩
end Go.Proofs.YtgaeikgoknoamaaGreat
namespace Go.Proofs.YtgaeikgoknoamaaGreat
open Go.RowKit Go.Maps
theorem aE.four (w:World) (b:Nat) (u0 u1 u2 u3:Value):aE (fun x=>x=b) w ((((w.setCell ⟨b,0,none⟩ u0).setCell ⟨b,1,none⟩ u1).setCell ⟨b,2,none⟩ u2).setCell ⟨b,3,none⟩ u3) :=
 aE.setCell (S:=fun x=>x=b) (p:=⟨b,3,none⟩) (aE.setCell (S:=fun x=>x=b) (p:=⟨b,2,none⟩) (aE.two w b 0 1 u0 u1) (fun _=>rfl) u2) (fun _=>rfl) u3
theorem jR (zs:List Int):(lK zs (cut zs).length).length=(cut zs).length:=by simp[lK]
def dT (p:Bs) (zs:List Int):En:=⟨p,1,zs.length,lK zs (cut zs).length⟩
theorem sA (p:Bs) (a:Option Addr) (cap:Nat) (zs:List Int) (w:World) (h:aZ .u8 w a zs) (hu:U8 zs) (hcap:zs.length≤cap) (hl:zs.length≤24) :
  Calls Tryz.prog 58 #[.string (str p),.slice a zs.length cap] w fun r w'=>∃ av cv,r=.returned (.agg #[.string (str p),.int .i64 1,.int .i64 zs.length,.slice av (cut zs).length cv])∧w'.ownsRow w.heap.size 2 1 (.slice av (cut zs).length cv) (cut zs).length ((lK zs (cut zs).length).map (Value.int .i64))∧Below w.heap.size w w':=by
 have HD:=aA (fun u hb=>zl2 a cap zs u (h.below hb) hu hcap hl)
 clear h hu;go_enter Tryz.func58,Tryz.ntmps58;have B0:=aA (aC w (.cells #[.string ⟨#[]⟩,.int .i64 0,.int .i64 0,.slice none 0 0] 87));have F0:=aA (cP.new w (.string ⟨#[]⟩) (.int .i64 0) (.int .i64 0) (.slice none 0 0) 87);have Z0:=aA (show ∀ i,i<4→(w.alloc (.cells #[.string ⟨#[]⟩,.int .i64 0,.int .i64 0,.slice none 0 0] 87)).frozen? ⟨w.heap.size,i,none⟩=false from fun i hi=>by simp)
 go_wp2_with fail
 refine (HD.out _ B0.out).mono ?_;rintro r w1 ⟨v,rfl,hG,hb1⟩;obtain ⟨av,cv,rfl⟩:=aR hG;have hlt0:=F0.out.lt;have B1:=aA (aB B0.out hb1);obtain ⟨f0,f1,f2,f3⟩:=F0.out.below hb1;have z0:=(hb1.frozen (p:=⟨w.heap.size,0,none⟩) hlt0).trans (Z0.out 0 (by omega))
 have z1:=(hb1.frozen (p:=⟨w.heap.size,1,none⟩) hlt0).trans (Z0.out 1 (by omega))
 have z2:=(hb1.frozen (p:=⟨w.heap.size,2,none⟩) hlt0).trans (Z0.out 2 (by omega))
 have z3:=(hb1.frozen (p:=⟨w.heap.size,3,none⟩) hlt0).trans (Z0.out 3 (by omega))
 have GG:=aA hG;clear hG hb1 B0 F0 Z0;go_wp2_with fail
 refine bodyPost_ret (v:=.agg #[.string (str p),.int .i64 1,.int .i64 zs.length,.slice av (cut zs).length cv]) (by simp[results,Tryz.results58,go_sem,f0,f1,f2,f3]) rfl ⟨av,cv,rfl,?_,(((B1.out.setCell (Nat.le_refl _) _).setCell (Nat.le_refl _) _).setCell (Nat.le_refl _) _).setCell (Nat.le_refl _) _⟩
 exact aW (aK (S:=fun b=>b=w.heap.size) GG.out (aE.four _ _ _ _ _ _) (fun b hb e=>by have:=(GG.out.lt b hb).1;omega)) (by omega)
end Go.Proofs.YtgaeikgoknoamaaGreat
