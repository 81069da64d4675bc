import Derived.Test.YtdlceolmpcjjiaaGreatDoorLabIter
import Derived.Test.YtdlceolmpcjjiaaGreatDoorRefTicksGroup
import Derived.Shelf.RegionOpen
set_option maxRecDepth 100000
set_option maxHeartbeats 4000000
namespace Go.Proofs.YtdlceolmpcjjiaaGreatDoor
open Go.RowKit Go.Shelf bF
attribute [local go_sem] Oper.semAt_some
structure FL (s0:Nat) (w:World) (l:List UInt8) (k:Nat) (W:World):Prop where
 aM:Below s0 w W
 res:W.heap[s0]? = some (.cells #[.slice none 0 0] 99 (0,0))
 err:W.heap[s0+1]? = some (.cells #[.nilIface] 27 (0,0))
 row:∃ v,W.heap[s0+2]? = some (.cells #[v] 99 (0,0))/\W.ownsRow (s0+6) 132 2 v k (dU (gL l k))
structure KV (s0:Nat) (w:World) (a:Addr) (W:World):Prop where
 aM:Below s0 w W
 res:W.heap[s0]? = some (.cells #[.slice none 0 0] 99 (0,0))
 err:W.heap[s0+1]? = some (.cells #[.iface 313 (.pointer (some a))] 27 (0,0))
theorem Pj {w:World} {base:Nat} {e:TypeId} {sz:Nat} {v:Value} {n:Nat} {xs:List Value} (h:w.ownsRow base e sz v n xs) (b:Nat) (hb:b<base) (o:Obj):(w.putObj b o).ownsRow base e sz v n xs:=by
 obtain⟨h1,h2⟩:=h;refine⟨h1,?_⟩;rcases h2 with h2 | ⟨g,cap,cur,hv,hg,hh,t⟩
 ·exact .inl h2
 ·exact .inr ⟨g,cap,cur,hv,hg,by rw[World.putObj_heap_other (by omega)];exact hh,t⟩
theorem su {s0:Nat} {w W:World} (h:Below s0 w W) (b:Nat) (hb:s0<=b) (o:Obj):Below s0 w (W.putObj b o):=
 h.trans ⟨rfl,rfl,rfl,by simp,fun k hk=>World.putObj_heap_other (by omega)⟩
theorem FL.put {s0:Nat} {w:World} {l:List UInt8} {k:Nat} {W:World} (h:FL s0 w l k W) (b:Nat) (o:Obj) (h1:s0+4<=b) (h2:b<=s0+5):FL s0 w l k (W.putObj b o):=by
 obtain⟨hb,hr,he,v,hv,ho⟩:=h;exact⟨su hb b (by omega) o,(World.putObj_heap_other (by omega)).trans hr,(World.putObj_heap_other (by omega)).trans he,v,(World.putObj_heap_other (by omega)).trans hv,Pj ho b (by omega) o⟩
theorem FL.drewN {s0:Nat} {w:World} {l:List UInt8} {k:Nat} {W:World} (h:FL s0 w l k W) (q:Nat):FL s0 w l k (W.drewN q):=
 ⟨below_draws h.aM q,h.res,h.err,h.row⟩
theorem KV.put {s0:Nat} {w:World} {a:Addr} {W:World} (h:KV s0 w a W) (b:Nat) (o:Obj) (h1:s0+4<=b):KV s0 w a (W.putObj b o):=
 ⟨su h.aM b (by omega) o,(World.putObj_heap_other (by omega)).trans h.res,(World.putObj_heap_other (by omega)).trans h.err⟩
theorem xB {X:World} {s0:Nat} {a b:Value} (h0:X.heap[s0]? = some (.cells #[a] 99 (0,0))) (h1:X.heap[s0+1]? = some (.cells #[b] 27 (0,0))) (o:Obj) :
  (X.putObj (s0+4) o).cell? ⟨s0,0,none⟩=some a/\(X.putObj (s0+4) o).cell? ⟨s0+1,0,none⟩=some b:=by
 have e0:(X.putObj (s0+4) o).heap[s0]? = some (.cells #[a] 99 (0,0)):=(World.putObj_heap_other (by omega)).trans h0;have e1:(X.putObj (s0+4) o).heap[s0+1]? = some (.cells #[b] 27 (0,0)):=(World.putObj_heap_other (by omega)).trans h1;simp only[World.cell?,e0,e1];exact⟨rfl,rfl⟩
theorem CV {X:World} {s0:Nat} {a b a' b':Value} (h0:X.heap[s0]? = some (.cells #[a] 99 (0,0))) (h1:X.heap[s0+1]? = some (.cells #[b] 27 (0,0))) :
  ((X.setCell ⟨s0,0,none⟩ a').setCell ⟨s0+1,0,none⟩ b').heap[s0]? = some (.cells #[a'] 99 (0,0))/\((X.setCell ⟨s0,0,none⟩ a').setCell ⟨s0+1,0,none⟩ b').heap[s0+1]? = some (.cells #[b'] 27 (0,0)) /\
  (∀ k,k≠s0->k≠s0+1->((X.setCell ⟨s0,0,none⟩ a').setCell ⟨s0+1,0,none⟩ b').heap[k]? = X.heap[k]?):=by
 refine⟨?_,?_,fun k k0 k1=>?_⟩
 ·rw[Below.heap_setCell _ _ _ _ (by show s0≠s0+1;omega),dN h0 0 _];rfl
 ·rw[dN ((Below.heap_setCell _ _ _ _ (by show s0+1≠s0;omega)).trans h1) 0 _];rfl
 ·rw[Below.heap_setCell _ _ _ _ k1,Below.heap_setCell _ _ _ _ k0]
theorem L6 {X Y:World} {s0 b i:Nat} (o:Obj) (hb:s0+4<b) (h:∀ k,k≠s0->k≠s0+1->Y.heap[k]? = X.heap[k]?):(Y.putObj (s0+4) o).cell? ⟨b,i,none⟩=X.cell? ⟨b,i,none⟩:=by
 have e:(Y.putObj (s0+4) o).heap[b]? = X.heap[b]?:=(World.putObj_heap_other (by omega)).trans (h b (by omega) (by omega));simp only[World.cell?,e]
def Vz (w w':World) (l:List UInt8) (ea:Nat->Addr) (e:Ending):Prop:=
 Below w.heap.size w w'/\((scan l [] [] [] false=none/\e = .returned (.tuple #[.slice none 0 0,.iface 313 (.pointer (some (ea 0)))])) \/
  ∃ out:List (List UInt8×List UInt8),scan l [] [] [] false=some out/\1<=out.length/\out.length<=l.length+1/\(∀ p,p∈out->p.1.length<=l.length/\p.2.length<=l.length) /\
   ((6<out.length/\e = .returned (.tuple #[.slice none 0 0,.iface 313 (.pointer (some (ea 1)))])) \/
   (out.length<=6/\∃ m,m<=out.length/\(∀ i,i<m->jw (nameAt out) (dO out) i=true)/\(m<out.length->jw (nameAt out) (dO out) m=false) /\
    ((m=out.length/\∃ v,e = .returned (.tuple #[v,.nilIface])/\w'.ownsRow w.heap.size 132 2 v out.length (dU out)) \/
     (m<out.length/\∃ pb:Nat,e = .returned (.tuple #[.slice none 0 0,.iface 118 (.pointer (some ⟨pb,0,none⟩))])/\w.heap.size<=pb/\w'.cell? ⟨pb,0,none⟩=some (.int .i64 (m:Int))/\w'.cell? ⟨pb,1,none⟩=some (.iface 313 (.pointer (some (if (isName (nameAt out m)&&isWord (dO out m))=true then ea 2 else ea 3)))))))))
theorem Tj (s:ByteArray) (w:World) (hs:s.size<=100000) (ea:Nat->Addr) (e0:w.cell? ⟨1,0,none⟩=some (.iface 313 (.pointer (some (ea 0))))) (e1:w.cell? ⟨0,0,none⟩=some (.iface 313 (.pointer (some (ea 1)))))
  (e2:w.cell? ⟨2,0,none⟩=some (.iface 313 (.pointer (some (ea 2))))) (e3:w.cell? ⟨3,0,none⟩=some (.iface 313 (.pointer (some (ea 3))))) :
  Calls Tryz.prog 99 #[.string s] w fun e w'=>Vz w w' s.data.toList ea e:=by
 obtain⟨l,hl⟩:∃ l,l=s.data.toList:=⟨_,rfl⟩;have hll:l.length=s.size:=by rw[hl];exact Array.length_toList
 obtain⟨n0,hn0,hmt,Pk⟩:=Td l;obtain⟨m,hm,hhas,XC⟩:=uR (CU l) (n0+1);have hmore:∀ i,i<n0+1->ng l i=decide (i+1<n0+1):=fun i hi=>by
  rcases Nat.lt_or_ge i n0 with h | h
  ·rw[hmt i h];simp;omega
  ·have:i=n0:=by omega
   subst this;rw[Pk];simp
 have HL:=(show Hid _ from hl);have HMT:=(show Hid _ from hmt);have HMF:=(show Hid _ from Pk);have adt:=(show Hid _ from hmore);have QT:=(show Hid _ from hhas);have XD:=(show Hid _ from XC);have g0:1<w.heap.size:=World.block_lt_of_cell? w ⟨1,0,none⟩ e0;have g1:0<w.heap.size:=World.block_lt_of_cell? w ⟨0,0,none⟩ e1;have g2:2<w.heap.size:=World.block_lt_of_cell? w ⟨2,0,none⟩ e2;have g3:3<w.heap.size:=World.block_lt_of_cell? w ⟨3,0,none⟩ e3;have HE:Hid (_/\_/\_/\_):=⟨e0,e1,e2,e3⟩;have XE:Hid _:=fun w0=>QO s w0
 rw[<-hl];clear hl hmt Pk hmore hhas XC e0 e1 e2 e3;refine callsIn_wide.1 (callsIn_of_wp_marks (n:=0) Tryz.func99 rfl trivial (wpIn_wide.2 ?_));simp only[Tryz.ntmps99,List.size_toArray,List.length_cons,List.length_nil,Nat.reduceAdd,Nat.reduceSub,Array.replicate_succ,Array.replicate_zero,List.push_toArray,List.append_toArray,List.nil_append,List.cons_append];go_wp2_with fail;refine Calls.mono (XE.out _) ?_;rintro e w1 ⟨rfl,rfl⟩;go_wp2;obtain⟨W0,hW0⟩:∃ W0,W0=(((w.alloc (.cells #[.slice none 0 0] 99)).alloc (.cells #[.nilIface] 27)).alloc (.cells #[.slice none 0 0] 99)).alloc (.cells #[.string s] 9):=⟨_,rfl⟩;have hs0:W0.heap.size=w.heap.size+4:=by rw[hW0];simp
 have hb0:Below w.heap.size w W0:=by rw[hW0];exact ((((Below.refl _ _).alloc (Nat.le_refl _) _).alloc (by simp) _).alloc (by simp;omega) _).alloc (by simp;omega) _
 have hr0:W0.heap[w.heap.size]? = some (.cells #[.slice none 0 0] 99 (0,0)):=by
  rw[hW0,Below.heap_alloc _ _ _ (by simp;omega),Below.heap_alloc _ _ _ (by simp;omega),Below.heap_alloc _ _ _ (by simp)];exact heap_alloc_new _ _
 have hr1:W0.heap[w.heap.size+1]? = some (.cells #[.nilIface] 27 (0,0)):=by
  rw[hW0,Below.heap_alloc _ _ _ (by simp),Below.heap_alloc _ _ _ (by simp)];have:=heap_alloc_new (w.alloc (.cells #[.slice none 0 0] 99)) (.cells #[.nilIface] 27);simpa using this
 have hr2:W0.heap[w.heap.size+2]? = some (.cells #[.slice none 0 0] 99 (0,0)):=by
  rw[hW0,Below.heap_alloc _ _ _ (by simp)];have:=heap_alloc_new ((w.alloc (.cells #[.slice none 0 0] 99)).alloc (.cells #[.nilIface] 27)) (.cells #[.slice none 0 0] 99);simpa using this
 have hr3:W0.heap[w.heap.size+3]? = some (.cells #[.string s] 9 (0,0)):=by
  rw[hW0];have:=heap_alloc_new (((w.alloc (.cells #[.slice none 0 0] 99)).alloc (.cells #[.nilIface] 27)).alloc (.cells #[.slice none 0 0] 99)) (.cells #[.string s] 9);simpa using this
 rw[<-hW0];clear hW0;have zZ:IQ Tryz.prog 155 #[.pointer (some ⟨w.heap.size+3,0,none⟩)] (fun k=>#[.string (txt (kM l k))]) m (n0+1) W0:=by
  rw[HL.out];refine KM (w.heap.size+3) s W0 (by omega) m (n0+1) hm (by omega) ?_ (by simp[World.cell?,hr3]);rw[<-HL.out];exact adt.out
 refine OI (gf:=155) (lb:=#[.pointer (some ⟨w.heap.size+3,0,none⟩)]) rfl (enters_of Tryz.func155 (by kernel_rfl) rfl) m (n0+1) (fun k=>#[.string (txt (kM l k))]) (fun _=>rfl) zZ
  (FL w.heap.size w l) (KV w.heap.size w (ea 0)) ?afN ?adu ?afO ?start
  (fun k=>{ tmps:=#[.string s,undef,.pointer (some ⟨w.heap.size,0,none⟩),.pointer (some ⟨w.heap.size+1,0,none⟩),.pointer (some ⟨w.heap.size+2,0,none⟩),.string (txt (kM l k)),undef,undef,undef,undef,.string s,.func (.func 155) #[] #[.pointer (some ⟨w.heap.size+3,0,none⟩)],.string (txt (kM l k)),undef,undef,undef,undef,undef,undef,undef,undef,undef,undef,undef,undef,undef,undef,undef,undef,undef,undef,undef,undef,undef],defers:=[] })
  ?assign ?body ?last ?done ?stop
 case afN=>intro k A b o h1 h2 h;exact h.put b o (by omega) (by omega)
 case adu=>intro k A q h;exact h.drewN q
 case afO=>intro A b o h1 _ h;exact h.put b o (by omega)
 case start=>
  intro o1 o2;refine⟨(hb0.alloc (by omega) _).alloc (by simp;omega) _,?_,?_,.slice none 0 0,?_,?_⟩
  ·rw[Below.heap_alloc _ _ _ (by simp;omega),Below.heap_alloc _ _ _ (by omega)];exact hr0
  ·rw[Below.heap_alloc _ _ _ (by simp;omega),Below.heap_alloc _ _ _ (by omega)];exact hr1
  ·rw[Below.heap_alloc _ _ _ (by simp;omega),Below.heap_alloc _ _ _ (by omega)];exact hr2
  ·exact⟨by simp[dU,gL],.inl ⟨rfl,rfl⟩⟩
 case assign=>
  intro lp k W K hK;gi_wp2;exact hK
 case body=>
  intro lp k W hkm hon hlt;obtain⟨hbel,hres,CW,v,hv,hown⟩:=hon;have hcut:=fun w0=>Pg (txt (kM l k)) w0 (by rw[bM];have:=En l k;omega)
  have hh:=QT.out k hkm;have hf:(bP 61 (txt (kM l k)).data.toList).2.2=CU l k:=rfl;have hn:txt (bP 61 (txt (kM l k)).data.toList).1=txt (qI l k).1:=rfl;have hvv:txt (bP 61 (txt (kM l k)).data.toList).2.1=txt (qI l k).2:=rfl;rw[hf,hn,hvv,hh] at hcut;have zG:=(show Hid _ from hcut);clear hcut hf hn hvv hh hr0 hr1 hr2 hr3 zZ;gi_wp2_with fail;refine⟨trivial,rfl,?_⟩;refine CallsIn.mono (CallsIn.inRound lp (callsIn_wide.2 (zG.out _))) ?_;rintro e w2 ⟨rfl,q,hq⟩;have HW2:Hid (w2.heap=W.heap/\Below w.heap.size w w2):=by rw[hq];exact⟨rfl,below_draws hbel q⟩
  have hv2:w2.heap[w.heap.size+2]? = some (.cells #[v] 99 (0,0)):=by rw[hq];exact hv
  have hown2:w2.ownsRow (w.heap.size+6) 132 2 v k (dU (gL l k)):=by rw[hq];exact hown
  have HS2:Hid (w2.heap.size=W.heap.size):=by rw[hq];exact Eq.refl W.heap.size
  clear hq;have c0:w2.cell? ⟨w.heap.size+2,0,none⟩=some v:=by simp[World.cell?,hv2]
  obtain⟨i0,hi,hz0,hz1,hz2⟩:=info_parts Tryz.infoLabel;have HI:=(show Hid _ from hi);clear hi;have eO:(w2.alloc (.cells #[.string (txt (qI l k).1),.string (txt (qI l k).2)] 132)).ownsRow (w.heap.size+6) 132 2 v k (dU (gL l k)):=hown2.alloc _;gi_wp2_with (gi_at_builtin;refine wpListIn_append_own _ rfl _ _ 99 rfl (w.heap.size+6) 132 i0 (.agg #[.string ⟨#[]⟩,.string ⟨#[]⟩]) 2 32 Tryz.underlying99 HI.out hz0 hz1 hz2 rfl (by decide) _ _ _ rfl eO ⟨w2.heap.size,0,none⟩ 1 1 [.string (txt (qI l k).1),.string (txt (qI l k).2)] rfl rfl (World.news_of_block (heap_alloc_new w2 _)) ?c2 ?c3 ?c4 ?c5 ?_);case c2=>first | exact⟨rfl,rfl⟩ | (intro q hq;simp at hq;rcases hq with rfl | rfl<;>rfl)
  case c3=>unfold maxLen;omega
  case c4=>omega
  case c5=>have:=HS2.out;simp;omega
  intro v' w3 hown3 hgrow _;rw[wH (gL l k) (qI l k),<-zF] at hown3;have hS2:=HS2.out;have uT:∀ b,b<w.heap.size+6->w3.heap[b]? = W.heap[b]?:=fun b hb=>by
   have h1:(w2.alloc (.cells #[.string (txt (qI l k).1),.string (txt (qI l k).2)] 132)).heap[b]? = W.heap[b]?:=by
    rw[Below.heap_alloc _ _ _ (by omega),HW2.out.1]
   rw[hgrow.block b (by simp;omega) ?_,h1];intro e;rcases hown2.2 with⟨hv',_⟩|⟨g,cap,cur,hv',hgb,_⟩
   ·rw[hv'] at e;simp[Value.ownBlock] at e
   ·rw[hv'] at e;simp[Value.ownBlock] at e;omega
  have XF:Below w.heap.size w w3:=by
   have h2:=HW2.out.2;refine⟨hgrow.os.trans h2.os,hgrow.tape.trans h2.tape,hgrow.output.trans h2.output,?_,fun b hb=>?_⟩
   ·have h3:=hgrow.size;have h4:=h2.size;simp at h3;omega
   ·rw[uT b (by omega)];exact hbel.block b hb
  have hr3:w3.heap[w.heap.size+2]? = some (.cells #[v] 99 (0,0)):=(uT _ (by omega)).trans hv;have d0:w3.cell? ⟨w.heap.size+2,0,none⟩=some v:=by simp[World.cell?,hr3]
  have f0:w3.frozen? ⟨w.heap.size+2,0,none⟩=false:=by simp[World.frozen?,hr3]
  obtain⟨ao,n',cap,hv'⟩:∃ ao n' cap,v' = .slice ao n' cap:=by
   rcases hown3.2 with⟨hv',_⟩|⟨g,cap,cur,hv',_⟩
   ·exact⟨_,_,_,hv'⟩
   ·exact⟨_,_,_,hv'⟩
  have HV':=(show Hid _ from hv');have zH:=(show Hid _ from uT);have adv:=(show Hid _ from XF);have Ba:=(show Hid _ from hown3);have wJ:Hid (_/\_):=⟨hres,CW⟩;have HR3:=(show Hid _ from hr3);clear uT XF hown3 hgrow hown2 eO hres CW hv hown c0 hv2 hbel hr3;subst hv';gi_wp2;refine⟨⟨adv.out.setCell (by simp) _,?_,?_,.slice ao n' cap,?_,?_⟩,?_,?_⟩
  ·rw[Below.heap_setCell _ _ _ _ (by show w.heap.size≠w.heap.size+2;omega),zH.out _ (by omega)];exact wJ.out.1
  ·rw[Below.heap_setCell _ _ _ _ (by show w.heap.size+1≠w.heap.size+2;omega),zH.out _ (by omega)];exact wJ.out.2
  ·rw[dN HR3.out 0 _];rfl
  ·exact nQ Ba.out _ _ (by omega) _
  ·rw[Below.heap_setCell _ _ _ _ (by show w.heap.size+4≠w.heap.size+2;omega),zH.out _ (by omega)]
  ·rw[Below.heap_setCell _ _ _ _ (by show w.heap.size+4+1≠w.heap.size+2;omega),zH.out _ (by omega)]
 case last=>
  intro lp W hmn hon hlt;obtain⟨hbel,hres,CW,v,hv,hown⟩:=hon;have hcut:=fun w0=>Pg (txt (kM l m)) w0 (by rw[bM];have:=En l m;omega)
  have hh:=XD.out hmn;have hf:(bP 61 (txt (kM l m)).data.toList).2.2=CU l m:=rfl;have hn:txt (bP 61 (txt (kM l m)).data.toList).1=txt (qI l m).1:=rfl;have hvv:txt (bP 61 (txt (kM l m)).data.toList).2.1=txt (qI l m).2:=rfl;rw[hf,hn,hvv,hh] at hcut;have zG:=(show Hid _ from hcut);clear hcut hf hn hvv hh hr0 hr1 hr2 hr3 zZ hv hown;gi_wp2_with fail;refine⟨trivial,rfl,?_⟩;refine CallsIn.mono (CallsIn.inRound lp (callsIn_wide.2 (zG.out _))) ?_;rintro e w2 ⟨rfl,q,hq⟩;have HW2:Hid (w2.heap=W.heap/\Below w.heap.size w w2):=by rw[hq];exact⟨rfl,below_draws hbel q⟩
  have hres2:w2.heap[w.heap.size]? = some (.cells #[.slice none 0 0] 99 (0,0)):=by rw[hq];exact hres
  have KW:w2.heap[w.heap.size+1]? = some (.cells #[.nilIface] 27 (0,0)):=by rw[hq];exact CW
  have hb2:Below w.heap.size w w2:=HW2.out.2;have k0:w2.cell? ⟨w.heap.size,0,none⟩=some (.slice none 0 0):=by simp[World.cell?,hres2]
  have k1:w2.cell? ⟨w.heap.size+1,0,none⟩=some .nilIface:=by simp[World.cell?,KW]
  have z0:w2.frozen? ⟨w.heap.size,0,none⟩=false:=by simp[World.frozen?,hres2]
  have z1:w2.frozen? ⟨w.heap.size+1,0,none⟩=false:=by simp[World.frozen?,KW]
  have x0:w2.cell? ⟨1,0,none⟩=some (.iface 313 (.pointer (some (ea 0)))):=(hb2.cell (p:=⟨1,0,none⟩) g0).trans HE.out.1;have HX:Hid (_/\_/\_):=⟨hb2,hres2,KW⟩;clear hq hbel hres CW hb2 hres2 KW;have afP:Tryz.prog.follows .mixedOrders=true:=by kernel_rfl
  have hwl:=HX.out.1.size;gi_wp2_with fail;gi_region_o;all_goals
   gi_wp2;have hX:=HX.out;refine⟨⟨(((hX.1.setCell (Nat.le_refl _) _).setCell (by simp) _).trans ⟨rfl,rfl,rfl,Nat.le_refl _,fun _ _=>rfl⟩),?_,?_⟩,?_,?_⟩
   ·show (World.setCell _ _ _).heap[_]? = _;rw[Below.heap_setCell _ _ _ _ (by show w.heap.size≠w.heap.size+1;omega),dN hX.2.1 0 _];rfl
   ·show (World.setCell _ _ _).heap[_]? = _;rw[dN ((Below.heap_setCell _ _ _ _ (by show w.heap.size+1≠w.heap.size;omega)).trans hX.2.2) 0 _];rfl
   ·show (World.setCell _ _ _).heap[_]? = _;rw[Below.heap_setCell _ _ _ _ (by show _≠w.heap.size+1;omega),Below.heap_setCell _ _ _ _ (by show _≠w.heap.size;omega),HW2.out.1]
   ·show (World.setCell _ _ _).heap[_]? = _;rw[Below.heap_setCell _ _ _ _ (by show _≠w.heap.size+1;omega),Below.heap_setCell _ _ _ _ (by show _≠w.heap.size;omega),HW2.out.1]
 case done=>
  intro W hmn hon hK;obtain⟨hbel,hres,CW,v,hv,hown⟩:=hon;have hl0:(gL l (n0+1)).length=n0+1:=KL l (n0+1);have hown':W.ownsRow (w.heap.size+6) 132 2 v (gL l (n0+1)).length (dU (gL l (n0+1))):=by rw[hl0];exact hown
  obtain⟨va,vc,rfl,Xu,KX⟩:=LM hown';have qO:Hid (scan l [] [] [] false=some (gL l (n0+1))):=Tf l n0 (fun i hi=>⟨HMT.out i hi,QT.out i (by omega)⟩) (QT.out n0 (by omega)) HMF.out;have jq:Hid (∀ p,p∈gL l (n0+1)->p.1.length<=l.length/\p.2.length<=l.length):=fun p hp=>by
   simp[gL] at hp;obtain⟨i,_,rfl⟩:=hp;exact Tc l i
  rw[hl0] at KX hown' Xu;have hsz:∀ i,i<n0+1->(nameAt (gL l (n0+1)) i).size<=1000000/\(dO (gL l (n0+1)) i).size<=1000000:=fun i hi=>by
   have e:(gL l (n0+1)).getD i ([],[])=qI l i:=by simp[gL,hi]
   unfold nameAt dO;rw[e,bM,bM];have:=Tc l i;omega
  have hE:=HE.out;have y1:W.cell? ⟨0,0,none⟩=some (.iface 313 (.pointer (some (ea 1)))):=(hbel.cell (p:=⟨0,0,none⟩) g1).trans hE.2.1;have y2:W.cell? ⟨2,0,none⟩=some (.iface 313 (.pointer (some (ea 2)))):=(hbel.cell (p:=⟨2,0,none⟩) g2).trans hE.2.2.1;have y3:W.cell? ⟨3,0,none⟩=some (.iface 313 (.pointer (some (ea 3)))):=(hbel.cell (p:=⟨3,0,none⟩) g3).trans hE.2.2.2;have c2:W.cell? ⟨w.heap.size+2,0,none⟩=some (.slice va (n0+1) vc):=by
   rw[hl0] at hv;simp[World.cell?,hv]
  have HB:=(show Hid _ from hbel);have HR:Hid (_/\_/\_):=⟨hres,CW,hK⟩;have HOWN:=(show Hid _ from hown');have HLEN:=(show Hid _ from hl0);clear hr0 hr1 hr2 hr3 zZ hown hE hbel hres CW hv hK hl0 hown';by_cases h6:6<n0+1
  ·have nM:Hid _:=OC W va (n0+1) vc h6 (by omega) (ea 1) y1;have k0:W.cell? ⟨w.heap.size,0,none⟩=some (.slice none 0 0):=by simp[World.cell?,HR.out.1]
   have k1:W.cell? ⟨w.heap.size+1,0,none⟩=some .nilIface:=by simp[World.cell?,HR.out.2.1]
   have z0:W.frozen? ⟨w.heap.size,0,none⟩=false:=by simp[World.frozen?,HR.out.1]
   have z1:W.frozen? ⟨w.heap.size+1,0,none⟩=false:=by simp[World.frozen?,HR.out.2.1]
   clear KX hsz y1 y2 y3;go_wp2_with fail;refine Calls.mono nM.out ?_;rintro e w1 ⟨rfl,hw1⟩;have bA:=hw1.symm;subst bA;go_wp2;obtain⟨q0,q1,q2⟩:=CV (a':=.slice none 0 0) (b':=.iface 313 (.pointer (some (ea 1)))) HR.out.1 HR.out.2.1;refine⟨by simp,.inl ⟨_,_,rfl,run_takeDeferred ((q2 _ (by omega) (by omega)).trans (by have:=HR.out.2.2;rwa [hs0] at this)),?_⟩⟩;obtain⟨p0,p1⟩:=xB q0 q1 (.deferred none);refine⟨.tuple #[.slice none 0 0,.iface 313 (.pointer (some (ea 1)))],by simp[results,Tryz.results99,go_sem,p0,p1],?_,.inr ⟨_,qO.out,?_,?_,jq.out,.inl ⟨?_,rfl⟩⟩⟩
   ·exact su ((HB.out.setCell (Nat.le_refl _) _).setCell (by simp) _) _ (by omega) _
   ·rw[HLEN.out];omega
   ·rw[HLEN.out];omega
   ·rw[HLEN.out];exact h6
  ·obtain⟨mm,hmm,hok,hbad⟩:=uR (jw (nameAt (gL l (n0+1))) (dO (gL l (n0+1)))) (n0+1);have nM:Hid _:=QC W va (n0+1) vc _ _ KX hsz (by omega) (by omega) mm hmm hok hbad (ea 3) (ea 2) y3 y2;have dH:=(show Hid _ from And.intro hok hbad);clear KX hsz y1 y2 y3 hok hbad;go_wp2_with fail;refine Calls.mono nM.out ?_;rintro e w1 ⟨hb1,hout⟩;have hs1:=hb1.size;have hwW:=HB.out.size;have i4:w.heap.size+4<W.heap.size:=by have h:=HR.out.2.2;rw[hs0] at h;exact (Array.getElem?_eq_some_iff.1 h).1
   have mo:w1.heap[w.heap.size]? = some (.cells #[.slice none 0 0] 99 (0,0))/\w1.heap[w.heap.size+1]? = some (.cells #[.nilIface] 27 (0,0))/\w1.heap[w.heap.size+4]? = some (.deferred (some [])):=
    ⟨(hb1.block _ (by omega)).trans HR.out.1,(hb1.block _ (by omega)).trans HR.out.2.1,(hb1.block _ (by omega)).trans (by have h:=HR.out.2.2;rwa [hs0] at h)⟩
   have k0:w1.cell? ⟨w.heap.size,0,none⟩=some (.slice none 0 0):=by simp[World.cell?,mo.1]
   have k1:w1.cell? ⟨w.heap.size+1,0,none⟩=some .nilIface:=by simp[World.cell?,mo.2.1]
   have z0:w1.frozen? ⟨w.heap.size,0,none⟩=false:=by simp[World.frozen?,mo.1]
   have z1:w1.frozen? ⟨w.heap.size+1,0,none⟩=false:=by simp[World.frozen?,mo.2.1]
   have k2:w1.cell? ⟨w.heap.size+2,0,none⟩=some (.slice va (n0+1) vc):=(hb1.cell (p:=⟨w.heap.size+2,0,none⟩) (by show w.heap.size+2<W.heap.size;omega)).trans c2;have HR1:=(show Hid _ from mo);have HB1:=(show Hid _ from hb1);clear hb1 mo c2;rcases hout with⟨VA,rfl⟩|⟨VA,pb,rfl,hpb,p0,p1⟩
   ·have k2s:(w1.setCell ⟨w.heap.size,0,none⟩ (.slice va (n0+1) vc)).cell? ⟨w.heap.size+1,0,none⟩=some .nilIface:=by
     rw[World.cell?_setCell_other _ _ _ _ (by intro e;injection e with e1;omega)];exact k1
    go_wp2;obtain⟨q0,q1,q2⟩:=CV (a':=.slice va (n0+1) vc) (b':=.nilIface) HR1.out.1 HR1.out.2.1;refine⟨by simp,.inl ⟨_,_,rfl,run_takeDeferred ((q2 _ (by omega) (by omega)).trans HR1.out.2.2),?_⟩⟩;obtain⟨p0,p1⟩:=xB q0 q1 (.deferred none);refine⟨.tuple #[.slice va (n0+1) vc,.nilIface],by simp[results,Tryz.results99,go_sem,p0,p1],?_,.inr ⟨_,qO.out,?_,?_,jq.out,.inr ⟨?_,mm,?_,dH.out.1,?_,.inl ⟨?_,_,rfl,?_⟩⟩⟩⟩
    ·exact su (((HB.out.trans (HB1.out.mono hwW)).setCell (Nat.le_refl _) _).setCell (by simp) _) _ (by omega) _
    ·rw[HLEN.out];omega
    ·rw[HLEN.out];omega
    ·rw[HLEN.out];omega
    ·rw[HLEN.out];omega
    ·rw[HLEN.out];exact dH.out.2
    ·rw[HLEN.out];exact VA
    ·rw[HLEN.out];have hw1:w1.ownsRow (w.heap.size+6) 132 2 (.slice va (n0+1) vc) (n0+1) (dU (gL l (n0+1))):=by
      obtain⟨h1,h2⟩:=HOWN.out;refine⟨h1,?_⟩;rcases h2 with h2 | ⟨g,cap,cur,hv,hg,hh,t⟩
      ·exact .inl h2
      ·exact .inr ⟨g,cap,cur,hv,hg,(HB1.out.block _ (aH hh)).trans hh,t⟩
     have h3:=Pj (nQ (nQ hw1 w.heap.size 0 (by omega) (.slice va (n0+1) vc)) (w.heap.size+1) 0 (by omega) .nilIface) (w.heap.size+4) (by omega) (.deferred none);obtain⟨h1,h2⟩:=h3;refine⟨h1,?_⟩;rcases h2 with h2 | ⟨g,cap,cur,hv,hg,t⟩
     ·exact .inl h2
     ·exact .inr ⟨g,cap,cur,hv,by omega,t⟩
   ·have HP:Hid (_/\_/\_):=⟨hpb,p0,p1⟩;clear p0 p1;go_wp2;obtain⟨q0,q1,q2⟩:=CV (a':=.slice none 0 0) (b':=.iface 118 (.pointer (some ⟨pb,0,none⟩))) HR1.out.1 HR1.out.2.1;refine⟨by simp,.inl ⟨_,_,rfl,run_takeDeferred ((q2 _ (by omega) (by omega)).trans HR1.out.2.2),?_⟩⟩;obtain⟨p0,p1⟩:=xB q0 q1 (.deferred none);refine⟨.tuple #[.slice none 0 0,.iface 118 (.pointer (some ⟨pb,0,none⟩))],by simp[results,Tryz.results99,go_sem,p0,p1],?_,.inr ⟨_,qO.out,?_,?_,jq.out,.inr ⟨?_,mm,?_,dH.out.1,?_,.inr ⟨?_,pb,rfl,?_,?_,?_⟩⟩⟩⟩
    ·exact su (((HB.out.trans (HB1.out.mono hwW)).setCell (Nat.le_refl _) _).setCell (by simp) _) _ (by omega) _
    ·rw[HLEN.out];omega
    ·rw[HLEN.out];omega
    ·rw[HLEN.out];omega
    ·rw[HLEN.out];omega
    ·rw[HLEN.out];exact dH.out.2
    ·rw[HLEN.out];exact VA
    ·have:=HP.out.1;omega
    ·exact (L6 _ (by have:=HP.out.1;omega) q2).trans HP.out.2.1
    ·exact (L6 _ (by have:=HP.out.1;omega) q2).trans HP.out.2.2
 case stop=>
  intro W hmn hx hK;have HX:=(show Hid _ from hx);have HK:=(show Hid _ from hK);have qO:Hid (scan l [] [] [] false=none):=Te l m (fun i hi=>⟨HMT.out i (by omega),QT.out i hi⟩) (XD.out hmn);clear hx hK hr0 hr1 hr2 hr3 zZ;go_wp2;refine⟨by simp,.inl ⟨_,_,rfl,run_takeDeferred (by have h:=HK.out;rwa [hs0] at h),?_⟩⟩;obtain⟨p0,p1⟩:=xB HX.out.res HX.out.err (.deferred none);exact⟨.tuple #[.slice none 0 0,.iface 313 (.pointer (some (ea 0)))],by simp[results,Tryz.results99,go_sem,hs0,p0,p1],su HX.out.aM _ (by omega) _,.inl ⟨qO.out,rfl⟩⟩
end Go.Proofs.YtdlceolmpcjjiaaGreatDoor
