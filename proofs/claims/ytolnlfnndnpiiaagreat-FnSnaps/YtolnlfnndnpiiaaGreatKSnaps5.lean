/-
  Texts put together: EntG EntC EntA EntW.
-/
import Derived.Test.YtolnlfnndnpiiaaGreatKSnaps3
import Derived.Test.YtolnlfnndnpiiaaGreatKSnaps4
import Derived.Deep.AppendLies
import Derived.Deep.DrawnRows
set_option linter.unusedVariables false
set_option maxHeartbeats 3200000
set_option maxRecDepth 100000
namespace Go.Proofs.YtolnlfnndnpiiaaGreat
open Go.RowKit Go.Maps
theorem Tryz.infoEn:(Tryz.prog.info? 50).map (fun i=>(i.zero,i.size,i.bytes))=some (some (.agg #[.string ⟨#[]⟩,.int .i64 0,.int .i64 0,.slice none 0 0]),4,56):=by kernel_rfl
structure Rw where
 e:En
 a:Option Addr
 c:Nat
def cM (r:Rw):List Value:=[.string (str r.e.path),.int .i64 r.e.kind,.int .i64 r.e.size,.slice r.a r.e.chunks.length r.c]
def aY (rs:List Rw):List Value:=rs.flatMap cM
theorem pL (a b:List Rw):aY (a++b)=aY a++aY b:=by simp[aY]
theorem fE:∀ rs:List Rw,(aY rs).length=rs.length * 4
 | []=>rfl
 | r :: rs=>by
  have:=fE rs;simp only[aY,List.flatMap_cons,List.length_append,List.length_cons]at this ⊢;rw[this];simp[cM];omega
theorem lA:∀ (rs:List Rw) (i q:Nat) (r:Rw),rs[i]?=some r→q<4→(aY rs)[i * 4+q]?=(cM r)[q]?
 | [],i,q,r,h,_=>by simp at h
 | x :: rs,0,q,r,h,hq=>by
  simp only[List.getElem?_cons_zero,Option.some.injEq]at h;subst h;simp only[aY,List.flatMap_cons,Nat.zero_mul,Nat.zero_add];rw[List.getElem?_append_left (by simp[cM];omega)]
 | x :: rs,i+1,q,r,h,hq=>by
  have:=lA rs i q r (by simpa using h) hq
  rw[←this];simp only[aY,List.flatMap_cons];rw[List.getElem?_append_right (by simp[cM];omega)]
  congr 1
  simp[cM];omega
theorem sN:∀ (rs:List Rw) (k:Nat),(aY rs).drop (k * 4)=aY (rs.drop k)
 | rs,0=>by simp
 | [],k+1=>by simp[aY]
 | x :: rs,k+1=>by
  have:=sN rs k;rw[List.drop_succ_cons,←this];simp only[aY,List.flatMap_cons];rw[show (k+1) * 4=(cM x).length+k * 4 from by simp[cM];omega,List.drop_length_add_append]
theorem xQ:∀ (rs:List Rw) (k:Nat),(aY rs).take (k * 4)=aY (rs.take k)
 | rs,0=>by simp[aY]
 | [],k+1=>by simp[aY]
 | x :: rs,k+1=>by
  have:=xQ rs k;rw[List.take_succ_cons];simp only[aY,List.flatMap_cons]at this ⊢;rw[show (k+1) * 4=(cM x).length+k * 4 from by simp[cM];omega,List.take_length_add_append,this]
theorem kF (rs:List Rw):∀ u∈aY rs,u.oneCell'=true:=by
 intro u hu;simp only[aY,List.mem_flatMap]at hu;obtain ⟨r,_,hr⟩:=hu;simp only[cM,List.mem_cons,List.not_mem_nil,or_false]at hr;rcases hr with rfl | rfl | rfl | rfl <;> rfl
def SE (B:Nat) (w:World) (v:Value) (es:List En):Prop :=
 ∃ rs:List Rw,rs.map Rw.e=es∧w.ownsRow B 50 4 v es.length (aY rs)∧∀ r∈rs,aP .i64 w r.a r.e.chunks
def GE (B T:Nat) (w:World) (v:Value) (es:List En):Prop :=
 ∃ rs:List Rw,rs.map Rw.e=es∧w.ownsRow B 50 4 v es.length (aY rs) ∧
  (∀ r∈rs,w.ownsRow B 2 1 (.slice r.a r.e.chunks.length r.c) r.e.chunks.length (r.e.chunks.map (Value.int .i64))) ∧
  rs.Pairwise (fun r r'=>∀ g,r.a.map Addr.block=some g→r'.a.map Addr.block≠some g) ∧
  (∀ r∈rs,∀ g,r.a.map Addr.block=some g→g<T)∧∀ b,v.ownBlock=some b→b<T
theorem fM {w:World} {B:Nat} {e:TypeId} {k:IntKind} {a:Option Addr} {n c:Nat} {zs:List Int} (h:w.ownsRow B e 1 (.slice a n c) n (zs.map (Value.int k))) (hn:n=zs.length):aP k w a zs:=by
 intro hz;have h0:0<n:=by rw[hn];exact List.length_pos_iff.2 hz
 obtain ⟨g,cap,hv,hg,hgl,hc,hf⟩:=rP h hn h0;simp only[Value.slice.injEq,true_and]at hv;exact ⟨g,0,hv.1,hgl,fun i hi=>by rw[Nat.zero_add];exact hc i (by omega)⟩
theorem GE.se {B T:Nat} {w:World} {v:Value} {es:List En} (h:GE B T w v es):SE B w v es:=by
 obtain ⟨rs,e,h1,h2,_⟩:=h;exact ⟨rs,e,h1,fun r hr=>fM (h2 r hr) rfl⟩
theorem SE.shape {B:Nat} {w:World} {v:Value} {es:List En} (h:SE B w v es):∃ a c,v=.slice a es.length c:=by
 obtain ⟨rs,_,h1,_⟩:=h;exact bH h1
theorem SE.rd {B:Nat} {w:World} {a:Option Addr} {n c:Nat} {es:List En} (h:SE B w (.slice a n c) es):RdE w a es:=by
 intro hz;obtain ⟨rs,he,h1,h2⟩:=h;have h0:0<es.length:=List.length_pos_iff.2 hz;have hl:rs.length=es.length:=by rw[←he,List.length_map]
 rcases h1.2 with ⟨_,h0'⟩ | ⟨g,cap,cur,h',hb,hh,hnc,hcm,hcs,htake⟩
 ·omega
 ·simp only[Value.slice.injEq]at h'
  obtain ⟨rfl,rfl,rfl⟩:=h';refine ⟨g,0,fun i=>(rs[i]?.map Rw.a).getD none,fun i=>(rs[i]?.map Rw.c).getD 0,rfl,(h1.lt g rfl).2,fun i e hi=>?_⟩
  have hi0:i<es.length:=(List.getElem?_eq_some_iff.1 hi).1;obtain ⟨r,hr⟩:∃ r,rs[i]?=some r:=⟨rs[i]'(by omega),List.getElem?_eq_getElem (by omega)⟩
  have hre:r.e=e:=by
   have:(rs.map Rw.e)[i]?=some r.e:=by rw[List.getElem?_map,hr];rfl
   rw[he,hi]at this;exact (Option.some.inj this).symm
  have hc:=fun q hq=>(h1.cellAt (i * 4+q) (by omega)).trans (lA rs i q r hr hq)
  simp only[hr,Option.map_some,Option.getD_some,Nat.zero_add];rw[←hre];exact ⟨hc 0 (by decide),hc 1 (by decide),hc 2 (by decide),hc 3 (by decide),h2 r (List.mem_of_getElem? hr)⟩
theorem GE.rd {B T:Nat} {w:World} {a:Option Addr} {n c:Nat} {es:List En} (h:GE B T w (.slice a n c) es):RdE w a es:=h.se.rd
theorem zw4 {a:Option Addr} {n c g:Nat} (hb:(Value.slice a n c).ownBlock=some g):a.map Addr.block=some g:=by
 cases a with
 | none=>simp[Value.ownBlock]at hb
 | some x=>simpa [Value.ownBlock] using hb
theorem nI {a:Option Addr} {n c g:Nat} (hb:a.map Addr.block=some g):(Value.slice a n c).ownBlock=some g:=by
 cases a with
 | none=>simp at hb
 | some x=>simpa [Value.ownBlock] using hb
theorem GE.kept {S:Nat→Prop} {B T:Nat} {w w':World} {v:Value} {es:List En} (h:GE B T w v es) (hk:aD S w w') (hS:∀ b,B≤b→b<T→¬ S b):GE B T w' v es:=by
 obtain ⟨rs,he,h1,h2,h3,h4,h5⟩:=h;exact ⟨rs,he,aL h1 hk (fun b hb=>hS b (h1.lt b hb).1 (h5 b hb)),fun r hr=>aL (h2 r hr) hk (fun b hb=>hS b ((h2 r hr).lt b hb).1 (h4 r hr b (zw4 hb))),h3,h4,h5⟩
theorem GE.below {B T:Nat} {w w':World} {v:Value} {es:List En} (h:GE B T w v es) (hk:Below w.heap.size w w'):GE B T w' v es :=
 h.kept (S:=fun _=>False) (aD.of_below hk) (fun _ _ _=>id)
theorem GE.mono {B B' T:Nat} {w:World} {v:Value} {es:List En} (h:GE B T w v es) (hB:B'≤B):GE B' T w v es:=by
 obtain ⟨rs,he,h1,h2,h3,h4,h5⟩:=h;exact ⟨rs,he,bF h1 hB,fun r hr=>bF (h2 r hr) hB,h3,h4,h5⟩
theorem GE.wide {B T T':Nat} {w:World} {v:Value} {es:List En} (h:GE B T w v es) (hT:T≤T'):GE B T' w v es:=by
 obtain ⟨rs,he,h1,h2,h3,h4,h5⟩:=h;exact ⟨rs,he,h1,h2,h3,fun r hr g hg=>Nat.lt_of_lt_of_le (h4 r hr g hg) hT,fun b hb=>Nat.lt_of_lt_of_le (h5 b hb) hT⟩
theorem GE.nil (B T:Nat) (w:World):GE B T w (.slice none 0 0) [] :=
 ⟨[],rfl,World.ownsRow_nil _ _ _ _,fun r hr=>by simp at hr,List.Pairwise.nil,fun r hr=>by simp at hr,fun b hb=>by simp[Value.ownBlock]at hb⟩
theorem GE.push {B:Nat} {w w1 w2:World} {v v':Value} {es:List En} {rs:List Rw} {e:En} {a:Option Addr} {c:Nat} (he:rs.map Rw.e=es)
  (h1:w.ownsRow B 50 4 v es.length (aY rs))
  (h2:∀ r∈rs,w.ownsRow B 2 1 (.slice r.a r.e.chunks.length r.c) r.e.chunks.length (r.e.chunks.map (Value.int .i64)))
  (h3:rs.Pairwise (fun r r'=>∀ g,r.a.map Addr.block=some g→r'.a.map Addr.block≠some g)) (hB:B≤w.heap.size) (hbel:Below w.heap.size w w1)
  (hown:w1.ownsRow w.heap.size 2 1 (.slice a e.chunks.length c) e.chunks.length (e.chunks.map (Value.int .i64)))
  (hv':w2.ownsRow B 50 4 v' (es.length+1) (aY rs++cM ⟨e,a,c⟩))
  (hk:aD (fun b=>v.ownBlock=some b) w1 w2):GE B w2.heap.size w2 v' (es ++ [e]):=by
 have hA:∀ r∈rs,∀ g',r.a.map Addr.block=some g'→g'<w.heap.size:=fun r hr g' hg=>((h2 r hr).lt g' (nI hg)).2
 have hg0:∀ g',a.map Addr.block=some g'→w.heap.size≤g'∧g'<w1.heap.size:=fun g' hg=>hown.lt g' (nI hg)
 have k1:=aI h1 hbel;have hsz:=hk.size;have hsz1:=hbel.size;refine ⟨rs ++ [⟨e,a,c⟩],by rw[List.map_append,he];rfl,?_,?_,?_,?_,fun b hb=>(hv'.lt b hb).2⟩
 ·rw[pL,List.length_append]
  simpa [aY] using hv'
 ·intro r hr
  rcases List.mem_append.1 hr with hr | hr
  ·have k2:=aI (h2 r hr) hbel
   exact aL k2 hk (fun b hb hS=>cW k1 k2 (by decide) hS hb)
  ·simp only[List.mem_singleton]at hr
   subst hr;exact aL (bF hown hB) hk (fun b hb hS=>cW k1 hown (by decide) hS hb)
 ·rw[List.pairwise_append]
  refine ⟨h3,List.pairwise_singleton _ _,fun r hr r' hr' g hg hg'=>?_⟩
  simp only[List.mem_singleton]at hr';subst hr';have:=hA r hr g hg;have:=hg0 g hg';omega
 ·intro r hr g hg
  rcases List.mem_append.1 hr with hr | hr
  ·have:=hA r hr g hg
   omega
  ·simp only[List.mem_singleton]at hr
   subst hr;have:=hg0 g hg;omega
end Go.Proofs.YtolnlfnndnpiiaaGreat
namespace Go.Proofs.YtolnlfnndnpiiaaGreat
open Go.RowKit Go.Maps
attribute [local go_sem ↓] Go.wp_at_zero Go.wp_at_succ
theorem jW {P:Program} {wr:World} {ops:Array Oper} {rest:List Oper} {o:Oper} {a:Act} {Q:Exit→Act→World→Prop} (hgd:o.guard=none) (s x:Operand) (t:TypeId)
  (ho:o.op=.call { callee:=.builtin .append,args:=#[s,x],argTypes:=#[t,t] })
  (base:Nat) (e:TypeId) (i:TypeInfo) (k:IntKind) (bytes:Nat) (hu:P.underlying t=some (.slice e)) (hi:P.info? e=some i) (hz:i.zero=some (.int k 0))
  (hsize:i.size=1) (hby:i.bytes=bytes) (g c n:Nat) (ys:List Int) (hs:a.eval s=.slice (some ⟨g,0,none⟩) n c) (hown:wr.ownsRow base e 1 (.slice (some ⟨g,0,none⟩) n c) n (ys.map (Value.int k)))
  (xa:Option Addr) (m cap:Nat) (zs:List Int) (hx:a.eval x=.slice xa m cap) (hm:m=zs.length) (hr:aP k wr xa zs)
  (N:Nat) (hN:n+m=N) (h63:n+m≤maxLen) (hbytes:(n+m) * bytes≤140737488355328) (hbase:base≤wr.heap.size)
  (h:∀ av cv w',w'.ownsRow base e 1 (.slice av N cv) N ((ys++zs).map (Value.int k))→aD (fun b=>b=g) wr w'→wpList P ops Q rest (a.put o.dst (.slice av N cv)) w') :
  wpList P ops Q (o :: rest) a wr:=by
 subst hN;cases xa with
 | some ad =>
  refine wpList_append_own _ hgd s x t ho base e i (.int k 0) 1 bytes hu hi hz hsize hby rfl (by decide) _ n _ hs hown ad m cap (zs.map (Value.int k)) hx (by simp[hm]) (fun j u hj=>?_) (uN _ _) h63 hbytes hbase ?_
  ·have h0:zs≠[]:=fun e=>by subst e;simp at hj
   obtain ⟨b,off,e1,hb,hc⟩:=hr h0;simp only[Option.some.injEq]at e1;subst e1;exact qW hc j u hj
  ·intro v' w' ho' hg _
   rw[←List.map_append]at ho';obtain ⟨av,cv,rfl⟩:=bH ho';exact h av cv w' ho' ⟨hg.os,hg.tape,hg.output,hg.size,fun q hq hn=>hg.block q hq (fun e=>hn (by simp[Value.ownBlock]at e;exact e))⟩
 | none =>
  have h0:zs=[]:=by
   by_cases h0:zs=[]
   ·exact h0
   ·obtain ⟨b,off,e1,_⟩:=hr h0;cases e1
  subst h0;simp only[List.length_nil]at hm;subst hm;have hc:n≤c:=mQ hown;have hrun:(Builtin.append_ #[t,t] o.type #[.slice (some ⟨g,0,none⟩) n c,.slice none 0 cap]).run P wr=.ok (.slice (some ⟨g,0,none⟩) (n+0) c) wr:=by
   simp[Builtin.append_,run_underlying hu,sizeOf,typeInfo,hi,Builtin.lenOf,Builtin.firstCells,storeCells,hc]
  refine wpList_plain hgd fun K hK=>?_
  unfold Oper.wp execOp;simp only[ho,resolve,invoke,builtin,Sem.run_bind,Sem.run_pure,Result.andThen_ok,List.map_toArray,List.map_cons,List.map_nil,hs,hx,hrun];exact hK _ _ (h _ _ wr (by simpa using hown) (aD.refl _ _))
theorem dB {P:Program} {wr:World} {news:Array Value} {ops:Array Oper} {rest:List Oper} {o:Oper} {a:Act} {Q:Exit→Act→World→Prop} (hgd:o.guard=none) (s x:Operand) (t:TypeId)
  (ho:o.op=.call { callee:=.builtin .append,args:=#[s,x],argTypes:=#[t,t] })
  (base:Nat) (e:TypeId) (i:TypeInfo) (z:Value) (size bytes:Nat) (ht:P.underlying t=some (.slice e)) (hi:P.info? e=some i) (hz:i.zero=some z)
  (hsize:i.size=size) (hby:i.bytes=bytes) (hzs:z.cells.size=size) (hsz:0<size)
  (v:Value) (n:Nat) (xs:List Value) (hs:a.eval s=v) (hown:wr.ownsRow base e size v n xs)
  (H:Nat) (hH:wr.heap.size=H) (hx:a.eval x=.slice (some ⟨H,0,none⟩) 1 1) (hl:news.size=size) (h1:∀ u∈news.toList,u.oneCell'=true)
  (h63:n+1≤maxLen) (hbytes:(n+1) * bytes≤140737488355328) (hbase:base≤wr.heap.size)
  (h:∀ av cv w',w'.ownsRow base e size (.slice av (n+1) cv) (n+1) (xs++news.toList)→aD (fun b=>v.ownBlock=some b) wr w'→wpList P ops Q rest (a.put o.dst (.slice av (n+1) cv)) w') :
  wpList P ops Q (o :: rest) a (wr.alloc (.cells news e)):=by
 subst hH;refine cS hgd s x t ho base e i z size bytes ht hi hz hsize hby hzs hsz v n xs hs hown hx hl h1 h63 hbytes hbase fun v' w' h2 h3=>?_
 obtain ⟨av,cv,rfl⟩:=bH h2;exact h av cv w' h2 h3
theorem iF {w:World} {B:Nat} {e:TypeId} {size n:Nat} {a:Option Addr} {c:Nat} {xs:List Value} (h:w.ownsRow B e size (.slice a n c) n xs) (hn:0<n∨∃ g,(Value.slice a n c).ownBlock=some g):∃ g,a=some ⟨g,0,none⟩∧n≤c:=by
 rcases h.2 with ⟨h',h0⟩ | ⟨g,cap,cur,h',_,_,hnc,_⟩
 ·simp only[Value.slice.injEq]at h'
  rcases hn with hn | ⟨g,hg⟩
  ·omega
  ·rw[h'.1]at hg;simp[Value.ownBlock]at hg
 ·simp only[Value.slice.injEq,true_and]at h'
  exact ⟨g,h'.1,by rw[h'.2];exact hnc⟩
theorem GE.addr {B T:Nat} {w:World} {a:Option Addr} {n c:Nat} {es:List En} (h:GE B T w (.slice a n c) es) (hn:n=es.length) (ho:0<n∨∃ g,(Value.slice a n c).ownBlock=some g):∃ g,a=some ⟨g,0,none⟩∧n≤c:=by
 subst hn;obtain ⟨rs,_,h1,_⟩:=h;exact iF h1 ho
theorem GE.made (w:World):GE w.heap.size (w.alloc (.cells #[] 50)).heap.size (w.alloc (.cells #[] 50)) (.slice (some ⟨w.heap.size,0,none⟩) 0 0) [] :=
 ⟨[],rfl,World.ownsRow_made w #[] 0 (Nat.le_refl _) (Nat.zero_le _) rfl,fun r hr=>by simp at hr,List.Pairwise.nil,fun r hr=>by simp at hr,fun x hx=>by simp[Value.ownBlock]at hx;subst hx;simp⟩
theorem GE.shape {B T:Nat} {w:World} {v:Value} {es:List En} (h:GE B T w v es):∃ a c,v=.slice a es.length c:=h.se.shape
theorem gP {α:Type} {es:List α} {k:Nat} (h:k≤es.length):(es.take k).length=k:=by rw[List.length_take];omega
theorem zvf {wr w1:World} {e:En} {x av:Option Addr} {cc cv:Nat} (hown:w1.ownsRow (wr.heap.size+1) 2 1 (.slice av e.chunks.length cv) e.chunks.length (e.chunks.map (Value.int .i64)))
  (hk:aD (fun b=>b=wr.heap.size+1) ((wr.alloc (.cells #[.string (str e.path),.int .i64 e.kind,.int .i64 e.size,.slice x e.chunks.length cc] 50)).alloc (.cells #[] 2)) w1) :
  (w1.cell? ⟨wr.heap.size,0,none⟩=some (.string (str e.path))∧w1.cell? ⟨wr.heap.size,1,none⟩=some (.int .i64 e.kind)∧w1.cell? ⟨wr.heap.size,2,none⟩=some (.int .i64 e.size)∧w1.cell? ⟨wr.heap.size,3,none⟩=some (.slice x e.chunks.length cc)∧w1.frozen? ⟨wr.heap.size,3,none⟩=false) ∧
  Below wr.heap.size wr (w1.setCell ⟨wr.heap.size,3,none⟩ (.slice av e.chunks.length cv)) ∧
  (w1.setCell ⟨wr.heap.size,3,none⟩ (.slice av e.chunks.length cv)).ownsRow wr.heap.size 2 1 (.slice av e.chunks.length cv) e.chunks.length (e.chunks.map (Value.int .i64)):=by
 have hF:=(cI.new wr (.string (str e.path)) (.int .i64 e.kind) (.int .i64 e.size) (.slice x e.chunks.length cc) 50).below (aC _ (.cells #[] 2));have hfz:((wr.alloc (.cells #[.string (str e.path),.int .i64 e.kind,.int .i64 e.size,.slice x e.chunks.length cc] 50)).alloc (.cells #[] 2)).frozen? ⟨wr.heap.size,3,none⟩=false:=by
  rw[(aC _ (.cells #[] 2)).frozen (p:=⟨wr.heap.size,3,none⟩) (by simp)]
  simp
 have hBB:Below wr.heap.size wr ((wr.alloc (.cells #[.string (str e.path),.int .i64 e.kind,.int .i64 e.size,.slice x e.chunks.length cc] 50)).alloc (.cells #[] 2)):=aB (aC _ _) (aC _ _);have hlt:=hF.lt;generalize (wr.alloc (.cells #[.string (str e.path),.int .i64 e.kind,.int .i64 e.size,.slice x e.chunks.length cc] 50)).alloc (.cells #[] 2)=W at *;obtain ⟨f0,f1,f2,f3⟩:=hF;have hne:¬ (wr.heap.size=wr.heap.size+1):=by omega
 refine ⟨⟨(hk.cell (p:=⟨wr.heap.size,0,none⟩) hlt hne).trans f0,(hk.cell (p:=⟨wr.heap.size,1,none⟩) hlt hne).trans f1,(hk.cell (p:=⟨wr.heap.size,2,none⟩) hlt hne).trans f2,(hk.cell (p:=⟨wr.heap.size,3,none⟩) hlt hne).trans f3,(hk.frozen (p:=⟨wr.heap.size,3,none⟩) hlt hne).trans hfz⟩,?_,?_⟩
 ·exact (hBB.trans (hk.below hBB.size (fun k hk h=>by omega))).setCell (p:=⟨wr.heap.size,3,none⟩) (Nat.le_refl _) _
 ·refine bF (base:=wr.heap.size+1) ?_ (by omega)
  exact aL (S:=fun b=>b=wr.heap.size) hown (aD.setCell (S:=fun b=>b=wr.heap.size) (p:=⟨wr.heap.size,3,none⟩) (aD.refl _ w1) (fun _=>rfl) _) (fun b hb hS=>by have:=(hown.lt b hb).1;omega)
theorem jF (a:Option Addr) (c n:Nat) (es:List En) (w:World) (h:RdE w a es) (hn:n=es.length) (hl:es.length≤1048576) (hs:aV es) :
  Calls Tryz.prog 119 #[.slice a n c] w fun r w'=>∃ g cv,r=.returned (.slice (some ⟨g,0,none⟩) n cv)∧n≤cv∧GE w.heap.size w'.heap.size w' (.slice (some ⟨g,0,none⟩) n cv) es∧Below w.heap.size w w':=by
 subst hn;obtain ⟨i1,ki,kz0,kz1,kz2⟩:=info_parts Tryz.infoEn;obtain ⟨i0,hi0,hz0,hz1,hz2⟩:=info_parts Tryz.infoI64;have HA:=aA h;have HS:=aA hs;clear h hs;go_enter Tryz.func119,Tryz.ntmps119;go_wp2_with fail
 go_loopw [3,4] (fun v i wr=>∃ j:Nat,j≤es.length∧i=.int .i64 j∧Hid (GE w.heap.size wr.heap.size wr v (es.take j))∧Hid (∃ g,v.ownBlock=some g)∧Hid (Below w.heap.size w wr)) (fun _ i _=>es.length - (intOf i).toNat)
 case atStart=>exact ⟨0,Nat.zero_le _,rfl,aA (GE.made w),aA ⟨_,rfl⟩,aA (aC _ _)⟩
 case round =>
  obtain ⟨j,hj,rfl,HG,HOb,HW⟩:=hrel;obtain ⟨lv,lc,hv⟩:=HG.out.shape;rw[gP hj]at hv;subst hv;have HA1:=aA (HA.out.below HW.out);have hsz:=HW.out.size;by_cases hlt:j<es.length
  ·obtain ⟨b,off,e,x,cc,rfl,hb,he,c0,c1,c2,c3,hr⟩:=HA1.out.at hlt
   have HX:=aA he;have HRc:=aA hr;have hsm:=HS.out e (List.mem_of_getElem? he);clear he hr;obtain ⟨rs,g1,g2,g3,g4,g5,g6⟩:=HG.out;have G1:=aA g1;have G2:=aA g2;have G3:=aA g3;have G4:=aA g4;clear g1 g2 g3 g4 g5 g6 HG;have hj1:(es.take j).length=j:=gP hj;have OWN0:Hid (((wr.alloc (.cells #[.string (str e.path),.int .i64 e.kind,.int .i64 e.size,.slice x e.chunks.length cc] 50)).alloc (.cells #[] 2)).ownsRow (wr.heap.size+1) 2 1 (.slice (some ⟨wr.heap.size+1,0,none⟩) 0 0) 0 (([]:List Int).map (Value.int .i64))):=aA (by
    have:=World.ownsRow_made (base:=wr.heap.size+1) (e:=2) (size:=1) (wr.alloc (.cells #[.string (str e.path),.int .i64 e.kind,.int .i64 e.size,.slice x e.chunks.length cc] 50)) #[] 0 (by simp) (Nat.zero_le _) rfl
    simpa using this)
   have RD0:Hid (aP .i64 ((wr.alloc (.cells #[.string (str e.path),.int .i64 e.kind,.int .i64 e.size,.slice x e.chunks.length cc] 50)).alloc (.cells #[] 2)) x e.chunks):=HRc.out.below (aB (aC _ _) (aC _ _));have hm0:0+e.chunks.length≤maxLen:=by unfold maxLen;omega
   have hm0':(0+e.chunks.length) * 8≤140737488355328:=by omega
   have hm1:j+1≤maxLen:=by unfold maxLen;omega
   have hm1':(j+1) * 56≤140737488355328:=by omega
   have G2':Hid (wr.ownsRow w.heap.size 50 4 (.slice lv j lc) j (aY rs)):=by have:=G2.out;rw[hj1]at this;exact this
   have HJ:=aA hj1;clear hj1;go_wp2_with (first
    | (at_builtin;refine jW rfl (.tmp 17) (.tmp 19) 48 rfl (wr.heap.size+1) 2 i0 .i64 8 Tryz.underlying48 hi0 hz0 hz1 hz2 (wr.heap.size+1) 0 0 [] rfl OWN0.out x e.chunks.length cc e.chunks rfl rfl RD0.out e.chunks.length (by simp) hm0 hm0' (by simp) ?_;intro av cv w1 hown1 hk1;obtain ⟨⟨f0,f1,f2,f3,f4⟩,hB1,hO1⟩:=zvf hown1 hk1;have B1:=aA hB1;have O1:=aA hO1;have O2:=aA (aI G2'.out hB1);have hs1:=hB1.size;have hH1:(w1.setCell ⟨wr.heap.size,3,none⟩ (.slice av e.chunks.length cv)).heap.size=w1.heap.size:=(by simp[World.setCell]);clear hown1 hk1 hB1 hO1)
    | (at_builtin;refine dB rfl (.tmp 22) (.tmp 24) 35 rfl w.heap.size 50 i1 (.agg #[.string ⟨#[]⟩,.int .i64 0,.int .i64 0,.slice none 0 0]) 4 56 Tryz.underlying35 ki kz0 kz1 kz2 rfl (by decide) _ _ _ rfl O2.out _ hH1 rfl rfl (by intro u hu;simp at hu;rcases hu with rfl | rfl | rfl | rfl <;> rfl) hm1 hm1' (by omega) ?_;intro av3 cv3 w3 hown2 hkept;have O3:=aA hown2;have K3:=aA hkept;clear hown2 hkept))
   go_roundw
   case rel =>
    refine ⟨j+1,by omega,by go_num,aA ?_,aA ?_,aA ?_⟩
    ·rw[bY HX.out]
     exact GE.push G1.out G2.out G3.out G4.out hsz B1.out O1.out (by rw[HJ.out];exact O3.out) K3.out
    ·obtain ⟨g5,h5,_⟩:=iF O3.out (.inl (by omega))
     exact ⟨g5,by rw[h5];rfl⟩
    ·exact (aB HW.out B1.out).trans (K3.out.below (by omega) (fun k hk hx=>by have:=(G2'.out.lt k hx).1;omega))
   case measure=>simp[intOf];omega
  ·have hje:j=es.length:=by omega
   have HE:=aA (show es.take j=es from List.take_of_length_le (by omega))
   obtain ⟨g5,h5,h6⟩:=HG.out.addr (gP hj).symm (.inr HOb.out);subst h5;have HG2:Hid (GE w.heap.size wr.heap.size wr (.slice (some ⟨g5,0,none⟩) j lc) es):=by have:=HG.out;rw[HE.out]at this;exact this
   clear HG HE;subst hje;go_wp2_with fail
   go_ret
   exact ⟨_,_,rfl,h6,HG2.out,HW.out⟩
def eV (q:Int) (es:List En) (w:World) (r:Ending) (w':World):Prop :=
 ∃ av cv,r=.returned (.agg #[.int .i64 q,.slice av es.length cv])∧GE w.heap.size w'.heap.size w' (.slice av es.length cv) es∧Below w.heap.size w w'
theorem eV.of {q:Int} {es:List En} {w w2 w3:World} {B b n:Nat} {av:Option Addr} {cv:Nat} {u v:Value} (hB:b<B) (hw:w.heap.size≤b) (hn:n=es.length) (hG:GE B w3.heap.size w3 (.slice av n cv) es) (hb:Below w.heap.size w w3) :
  eV q es w (.returned (.agg #[.int .i64 q,.slice av n cv])) ((w3.setCell ⟨b,0,none⟩ u).setCell ⟨b,1,none⟩ v):=by
 subst hn;refine ⟨av,cv,rfl,?_,(hb.setCell hw _).setCell hw _⟩;have hs:((w3.setCell ⟨b,0,none⟩ u).setCell ⟨b,1,none⟩ v).heap.size=w3.heap.size:=by simp[World.setCell]
 rw[hs];exact (hG.kept (aD.two w3 b 0 1 u v) (fun x h1 _ h2=>by omega)).mono (by omega)
theorem eV.bad {q:Int} {w w3:World} {b:Nat} {u v:Value} (hw:w.heap.size≤b) (hb:Below w.heap.size w w3) :
  eV q [] w (.returned (.agg #[.int .i64 q,.slice none 0 0])) ((w3.setCell ⟨b,0,none⟩ u).setCell ⟨b,1,none⟩ v) :=
 ⟨none,0,rfl,GE.nil _ _ _,(hb.setCell hw _).setCell hw _⟩
def kJ (p:Bs) (also:Bool) (e:En):Bool:=bD e.path p||(also&&decide (e.path=p))
def bB (es:List En) (p:Bs) (also:Bool):List En:=es.filter fun e=>!(kJ p also e)
theorem vT {es:List En} {p:Bs} {also:Bool} {k:Nat} {e:En} (he:es[k]?=some e) (h:kJ p also e=false):bB (es.take (k+1)) p also=bB (es.take k) p also ++ [e]:=by
 rw[bY he];simp[bB,h]
theorem pC {es:List En} {p:Bs} {also:Bool} {k:Nat} {e:En} (he:es[k]?=some e) (h:kJ p also e=true):bB (es.take (k+1)) p also=bB (es.take k) p also:=by
 rw[bY he];simp[bB,h]
theorem xL (es:List En) (p:Bs) (also:Bool):(bB es p also).length≤es.length:=List.length_filter_le _ _
theorem zX {es:List En} (h:aV es) (p:Bs) (also:Bool):aV (bB es p also):=fun e he=>h e (List.mem_filter.1 he).1
def LE (w0 w:World) (v:Value) (es:List En):Prop :=
 ∃ rs:List Rw,rs.map Rw.e=es∧w.ownsRow w0.heap.size 50 4 v es.length (aY rs)∧∀ r∈rs,aP .i64 w0 r.a r.e.chunks
theorem LE.se {w0 w:World} {v:Value} {es:List En} (h:LE w0 w v es) (hb:Below w0.heap.size w0 w):SE w0.heap.size w v es:=by
 obtain ⟨rs,he,h1,h2⟩:=h;exact ⟨rs,he,h1,fun r hr=>(h2 r hr).below hb⟩
theorem LE.shape {w0 w:World} {v:Value} {es:List En} (h:LE w0 w v es):∃ a c,v=.slice a es.length c:=by
 obtain ⟨rs,_,h1,_⟩:=h;exact bH h1
theorem LE.made (w:World):LE w (w.alloc (.cells #[] 50)) (.slice (some ⟨w.heap.size,0,none⟩) 0 0) [] :=
 ⟨[],rfl,World.ownsRow_made w #[] 0 (Nat.le_refl _) (Nat.zero_le _) rfl,fun r hr=>by simp at hr⟩
theorem LE.push {w0 w2:World} {v':Value} {es:List En} {rs:List Rw} {e:En} {a:Option Addr} {c m:Nat} (he:rs.map Rw.e=es) (hm:m=es.length)
  (h2:∀ r∈rs,aP .i64 w0 r.a r.e.chunks) (hr:aP .i64 w0 a e.chunks)
  (hv':w2.ownsRow w0.heap.size 50 4 v' (m+1) (aY rs++cM ⟨e,a,c⟩)):LE w0 w2 v' (es ++ [e]):=by
 subst hm;refine ⟨rs ++ [⟨e,a,c⟩],by rw[List.map_append,he];rfl,?_,fun r hx=>?_⟩
 ·rw[pL,List.length_append]
  simpa [aY] using hv'
 ·rcases List.mem_append.1 hx with hx | hx
  ·exact h2 r hx
  ·simp only[List.mem_singleton]at hx
   subst hx;exact hr
theorem zw5 (a:Option Addr) (c n:Nat) (es:List En) (p:Bs) (also:Bool) (w:World) (h:RdE w a es) (hn:n=es.length) (hl:es.length≤1048576) (hs:aV es) (hp:p.length≤1048576) :
  Calls Tryz.prog 173 #[.slice a n c,.string (str p),.bool also] w fun r w'=>∃ g cv,r=.returned (.slice (some ⟨g,0,none⟩) (bB es p also).length cv)∧GE w.heap.size w'.heap.size w' (.slice (some ⟨g,0,none⟩) (bB es p also).length cv) (bB es p also)∧Below w.heap.size w w':=by
 subst hn;obtain ⟨i1,ki,kz0,kz1,kz2⟩:=info_parts Tryz.infoEn;have HA:=aA h;have HS:=aA hs;clear h hs;cases also
 case false =>
  go_enter Tryz.func173,Tryz.ntmps173;go_wp2_with fail
  go_loopw [7,8] (fun v i wr=>∃ j:Nat,j≤es.length∧i=.int .i64 j∧Hid (LE w wr v (bB (es.take j) p false))∧Hid (∃ g,v.ownBlock=some g)∧Hid (Below w.heap.size w wr)) (fun _ i _=>es.length - (intOf i).toNat)
  case atStart=>exact ⟨0,Nat.zero_le _,rfl,aA (LE.made w),aA ⟨_,rfl⟩,aA (aC _ _)⟩
  case round =>
   obtain ⟨j,hj,rfl,HG,HOb,HW⟩:=hrel;obtain ⟨lv,lc,rfl⟩:=HG.out.shape;have hrl:=xL (es.take j) p false;have htl:=gP hj;have hsz:=HW.out.size;by_cases hlt:j<es.length
   ·obtain ⟨b,off,e,x,cc,rfl,hb,he,c0,c1,c2,c3,hr⟩:=HA.out.at hlt
    have HX:=aA he;have HRc:=aA hr;have hsm:=HS.out e (List.mem_of_getElem? he);have c0:=(HW.out.cell (p:=⟨b,off+j * 4,none⟩) hb).trans c0;have c1:=(HW.out.cell (p:=⟨b,off+j * 4+1,none⟩) hb).trans c1;have c2:=(HW.out.cell (p:=⟨b,off+j * 4+2,none⟩) hb).trans c2;have c3:=(HW.out.cell (p:=⟨b,off+j * 4+3,none⟩) hb).trans c3;have hm1:(bB (es.take j) p false).length+1≤maxLen:=by unfold maxLen;omega
    have hm1':((bB (es.take j) p false).length+1) * 56≤140737488355328:=by omega
    clear he hr htl hrl;cases hbl:bD e.path p
    ·have HBl:=aA hbl
     clear hbl;have HO:=aA (vT HX.out (show kJ p false e=false from by simp[kJ,HBl.out]))
     obtain ⟨rs,g1,g2,g3⟩:=HG.out;have G1:=aA g1;have G2:=aA g2;have G3:=aA g3;clear g1 g2 g3 HG;go_wp2_with (first | (go_at_call 220;refine (iK _ _ _ (by rw[aK];omega) (by rw[aK];omega)).mono ?_;rintro r w' ⟨rfl,rfl⟩;rw[aT,aT,HBl.out]) | (at_builtin;refine dB rfl (.tmp 35) (.tmp 40) 35 rfl w.heap.size 50 i1 (.agg #[.string ⟨#[]⟩,.int .i64 0,.int .i64 0,.slice none 0 0]) 4 56 Tryz.underlying35 ki kz0 kz1 kz2 rfl (by decide) _ _ _ rfl G2.out _ rfl rfl rfl (by intro u hu;simp at hu;rcases hu with rfl | rfl | rfl | rfl <;> rfl) hm1 hm1' (by omega) ?_;intro av3 cv3 w3 hown2 hkept;have O3:=aA hown2;have K3:=aA hkept;clear hown2 hkept))
     go_roundw
     case rel =>
      refine ⟨j+1,by omega,by go_num,aA ?_,aA ?_,aA ?_⟩
      ·rw[HO.out]
       exact LE.push G1.out rfl G3.out HRc.out O3.out
      ·obtain ⟨g5,h5,_⟩:=iF O3.out (.inl (by omega))
       exact ⟨g5,by rw[h5];rfl⟩
      ·exact HW.out.trans (K3.out.below (by omega) (fun k hk hx=>by have:=(G2.out.lt k hx).1;omega))
     case measure=>simp[intOf];omega
    ·have HBl:=aA hbl
     clear hbl;have HO:=aA (pC HX.out (show kJ p false e=true from by simp[kJ,HBl.out]))
     go_wp2_with (go_at_call 220;refine (iK _ _ _ (by rw[aK];omega) (by rw[aK];omega)).mono ?_;rintro r w' ⟨rfl,rfl⟩;rw[aT,aT,HBl.out])
     go_roundw
     case rel=>exact ⟨j+1,by omega,by go_num,aA (by rw[HO.out];exact HG.out),HOb,HW⟩
     case measure=>simp[intOf];omega
   ·have hE:es.take j=es:=List.take_of_length_le (by omega)
    rw[hE]at HG hrl htl ⊢;clear hE;have HC:=aA (jF lv lc (bB es p false).length (bB es p false) wr ((HG.out.se HW.out).rd) rfl (by omega) (zX HS.out p false))
    clear HG hrl htl;go_wp2_with fail
    refine HC.out.mono ?_;rintro r w3 ⟨g,cv,rfl,hcv,hG,hb3⟩;have GG:=aA (hG.mono hsz);have B3:=aA (aB HW.out hb3);clear hG hb3;go_wp2_with fail
    go_ret
    exact ⟨_,_,rfl,GG.out,B3.out⟩
 case true =>
  go_enter Tryz.func173,Tryz.ntmps173;go_wp2_with fail
  go_loopw [7,8] (fun v i wr=>∃ j:Nat,j≤es.length∧i=.int .i64 j∧Hid (LE w wr v (bB (es.take j) p true))∧Hid (∃ g,v.ownBlock=some g)∧Hid (Below w.heap.size w wr)) (fun _ i _=>es.length - (intOf i).toNat)
  case atStart=>exact ⟨0,Nat.zero_le _,rfl,aA (LE.made w),aA ⟨_,rfl⟩,aA (aC _ _)⟩
  case round =>
   obtain ⟨j,hj,rfl,HG,HOb,HW⟩:=hrel;obtain ⟨lv,lc,rfl⟩:=HG.out.shape;have hrl:=xL (es.take j) p true;have htl:=gP hj;have hsz:=HW.out.size;by_cases hlt:j<es.length
   ·obtain ⟨b,off,e,x,cc,rfl,hb,he,c0,c1,c2,c3,hr⟩:=HA.out.at hlt
    have HX:=aA he;have HRc:=aA hr;have hsm:=HS.out e (List.mem_of_getElem? he);have c0:=(HW.out.cell (p:=⟨b,off+j * 4,none⟩) hb).trans c0;have c1:=(HW.out.cell (p:=⟨b,off+j * 4+1,none⟩) hb).trans c1;have c2:=(HW.out.cell (p:=⟨b,off+j * 4+2,none⟩) hb).trans c2;have c3:=(HW.out.cell (p:=⟨b,off+j * 4+3,none⟩) hb).trans c3;have hm1:(bB (es.take j) p true).length+1≤maxLen:=by unfold maxLen;omega
    have hm1':((bB (es.take j) p true).length+1) * 56≤140737488355328:=by omega
    clear he hr htl hrl;cases hbl:bD e.path p
    ·have HBl:=aA hbl
     clear hbl;by_cases hq:e.path=p
     ·have hq2:=gS hq
      have HQ:=aA hq;clear hq;have HO:=aA (pC HX.out (show kJ p true e=true from by simp[kJ,HQ.out]))
      go_wp2_with (go_at_call 220;refine (iK _ _ _ (by rw[aK];omega) (by rw[aK];omega)).mono ?_;rintro r w' ⟨rfl,rfl⟩;rw[aT,aT,HBl.out])
      go_roundw
      case rel=>exact ⟨j+1,by omega,by go_num,aA (by rw[HO.out];exact HG.out),HOb,HW⟩
      case measure=>simp[intOf];omega
     ·have hq2:=jA hq
      have HQ:=aA hq;clear hq;have HO:=aA (vT HX.out (show kJ p true e=false from by simp[kJ,HBl.out];exact HQ.out))
      obtain ⟨rs,g1,g2,g3⟩:=HG.out;have G1:=aA g1;have G2:=aA g2;have G3:=aA g3;clear g1 g2 g3 HG;go_wp2_with (first | (go_at_call 220;refine (iK _ _ _ (by rw[aK];omega) (by rw[aK];omega)).mono ?_;rintro r w' ⟨rfl,rfl⟩;rw[aT,aT,HBl.out]) | (at_builtin;refine dB rfl (.tmp 35) (.tmp 40) 35 rfl w.heap.size 50 i1 (.agg #[.string ⟨#[]⟩,.int .i64 0,.int .i64 0,.slice none 0 0]) 4 56 Tryz.underlying35 ki kz0 kz1 kz2 rfl (by decide) _ _ _ rfl G2.out _ rfl rfl rfl (by intro u hu;simp at hu;rcases hu with rfl | rfl | rfl | rfl <;> rfl) hm1 hm1' (by omega) ?_;intro av3 cv3 w3 hown2 hkept;have O3:=aA hown2;have K3:=aA hkept;clear hown2 hkept))
      go_roundw
      case rel =>
       refine ⟨j+1,by omega,by go_num,aA ?_,aA ?_,aA ?_⟩
       ·rw[HO.out]
        exact LE.push G1.out rfl G3.out HRc.out O3.out
       ·obtain ⟨g5,h5,_⟩:=iF O3.out (.inl (by omega))
        exact ⟨g5,by rw[h5];rfl⟩
       ·exact HW.out.trans (K3.out.below (by omega) (fun k hk hx=>by have:=(G2.out.lt k hx).1;omega))
      case measure=>simp[intOf];omega
    ·have HBl:=aA hbl
     clear hbl;have HO:=aA (pC HX.out (show kJ p true e=true from by simp[kJ,HBl.out]))
     go_wp2_with (go_at_call 220;refine (iK _ _ _ (by rw[aK];omega) (by rw[aK];omega)).mono ?_;rintro r w' ⟨rfl,rfl⟩;rw[aT,aT,HBl.out])
     go_roundw
     case rel=>exact ⟨j+1,by omega,by go_num,aA (by rw[HO.out];exact HG.out),HOb,HW⟩
     case measure=>simp[intOf];omega
   ·have hE:es.take j=es:=List.take_of_length_le (by omega)
    rw[hE]at HG hrl htl ⊢;clear hE;have HC:=aA (jF lv lc (bB es p true).length (bB es p true) wr ((HG.out.se HW.out).rd) rfl (by omega) (zX HS.out p true))
    clear HG hrl htl;go_wp2_with fail
    refine HC.out.mono ?_;rintro r w3 ⟨g,cv,rfl,hcv,hG,hb3⟩;have GG:=aA (hG.mono hsz);have B3:=aA (aB HW.out hb3);clear hG hb3;go_wp2_with fail
    go_ret
    exact ⟨_,_,rfl,GG.out,B3.out⟩
end Go.Proofs.YtolnlfnndnpiiaaGreat
