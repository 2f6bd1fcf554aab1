/-
  The statement ManifestFiles: bytes are stored and fetched, and versions saved and loaded, as the document says, for any files, name, bytes, number and version; what was handed in stays, also when what was answered is written over. No condition but that the arguments fit the memory that the form lets an input take, and that bytes.ErrTooLarge reads as its initialiser lays it: the card ties that to the program.
  The statement, out of its row.
-/
import Derived.Test.YtmeaiocohalphaaGreatDoorManifestFilesOver
namespace Go.Proofs.YtmeaiocohalphaaGreatDoor
theorem manifestFiles_holds:Rows.ManifestFilesCardSaid:=
  Claim7.holds_tied_plain_at .later [] [.sentinel] true _ false
    manifestFiles.over (fun _ h=>by cases h) (by kernel_rfl) (fun _ h=>by cases h) manifestFiles_row_tie rfl ⟨rfl,rfl⟩ (by kernel_rfl) rfl
    (fun f fn hf hfn=>by
      obtain rfl:f=4:=Option.some.inj ((show Tryz.prog.funcNamed "millhand/millhandlaw17.ManifestFiles"=some 4 by kernel_rfl).symm.trans hf) |>.symm
      obtain rfl:fn=Tryz.f4:=(Option.some.inj (Tryz.func4.symm.trans hfn)).symm
      exact ⟨by kernel_rfl,fun j t ht=>by
        rw [Tryz.params4] at ht
        have hm:t∈[33,9,23,3,36]:=by simpa using Array.mem_of_getElem? ht
        have hall:([33,9,23,3,36].all fun u=>!Tryz.prog.wantsStandIn u)=true:=by kernel_rfl
        exact (show Tryz.prog.wantsStandIn t=false by simpa using List.all_eq_true.1 hall t hm)⟩)
    (by kernel_rfl)
end Go.Proofs.YtmeaiocohalphaaGreatDoor
